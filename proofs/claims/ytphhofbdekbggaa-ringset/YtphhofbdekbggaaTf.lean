/-
  Add: what is wanted for its walk.
-/
import Derived.Test.YtphhofbdekbggaaTa
import Derived.Test.YtphhofbdekbggaaTe
namespace Go.Proofs.Ytphhofbdekbggaa
open Go.RowKit
set_option linter.unusedVariables false
set_option linter.unusedSimpArgs false

/-- A ring, the empty one among them. -/
def RZ (w : World) (v : Value) (L : List Sv) (ps : List Pt) : Prop := Rg w v L ps ∨ (v = .agg #[.slice none 0 0, .slice none 0 0] ∧ L = [] ∧ ps = [])
theorem RZ.grown {w w' : World} {v : Value} {L : List Sv} {ps : List Pt} (h : RZ w v L ps) (hf : w.grownBy w' none) : RZ w' v L ps := by
  rcases h with h | h
  · exact .inl (h.grown hf)
  · exact .inr h
theorem RZ.setS {w : World} {v : Value} {L : List Sv} {ps : List Pt} (h : RZ w v L ps) {y : Addr} {s1 : Option Addr} {s2 s3 : Nat} (hc : w.cell? y = some (.slice s1 s2 s3)) (z : Value) : RZ (w.setCell y z) v L ps := by
  rcases h with h | h
  · exact .inl (h.setS hc z)
  · exact .inr h
/-- What a ring is, whichever it is. -/
theorem RZ.parts {w : World} {v : Value} {L : List Sv} {ps : List Pt} (h : RZ w v L ps) : ∃ a g c x2 px pc gp, v = .agg #[.slice a L.length c, .slice x2 ps.length pc] ∧ (0 < L.length → a = some ⟨g, 0, none⟩) ∧ SvAt w g L ∧ Asc L ∧ (∀ p ∈ L, svOk p = true) ∧ L.length ≤ 256 ∧ ps.length ≤ 512 * L.length ∧ px = ps ∧ (0 < ps.length → x2 = some ⟨gp, 0, none⟩) ∧ PtAt w gp ps := by
  rcases h with h | ⟨rfl, rfl, rfl⟩
  · obtain ⟨a, g, c, gp, cp, rfl, ha, hS, hP⟩ := h.ex
    exact ⟨a, g, c, _, ps, cp, gp, rfl, ha, hS, h.asc, h.ok, h.len, h.pl, rfl, fun _ => rfl, hP⟩
  · exact ⟨none, 0, 0, none, [], 0, 0, rfl, fun h => by simp at h, fun i hi => by simp at hi, fun i j _ hj => by simp at hj, fun p hp => by simp at hp, by simp, by simp, rfl, fun h => by simp at h, fun i hi => by simp at hi⟩
set_option maxRecDepth 100000 in
set_option maxHeartbeats 2000000 in
theorem clone_32e {w : World} {a : Option Addr} {c : Nat} :
    Calls Try.prog 32 #[.slice a 0 c] w fun e w' => (∃ a' c', e = .returned (.slice a' 0 c') ∧ w'.ownsRow w.heap.size 26 2 (.slice a' 0 c') 0 []) ∧ w.grownBy w' none := by
  have hq : ∀ (W : World) (n c : Nat), Sem.run Try.prog (binOp .eql 22 (.slice a n c) (.slice none 0 0)) W = .ok (.bool a.isNone) W := fun W n c => by
    cases a with
    | none => first | rfl | kernel_rfl | simp [binOp, go_sem]
    | some x => first | rfl | kernel_rfl | simp [binOp, go_sem]
  have ga := gb_alloc (gb_refl w none) (.cells #[] 26)
  have hE0 : (w.alloc (.cells #[] 26)).ownsRow w.heap.size 26 2 (.slice (some ⟨w.heap.size, 0, none⟩) 0 0) 0 [] := ⟨rfl, .inr ⟨w.heap.size, 0, #[], rfl, Nat.le_refl _, heap_alloc_new w _, Nat.le_refl _, by unfold maxLen; omega, rfl, rfl⟩⟩
  cases a with
  | none =>
    have hq1 := hq
    simp only [Option.isNone_none] at hq1
    clear hq
    go_enter Try.func32, Try.ntmps32
    go_wp2_with fail
    go_ret
    exact ⟨⟨_, _, rfl, World.ownsRow_nil _ _ _ _⟩, gb_refl _ _⟩
  | some x =>
    have hq1 := hq
    simp only [Option.isNone_some] at hq1
    clear hq
    go_enter Try.func32, Try.ntmps32
    go_wp2_with fail
    go_ret
    exact ⟨⟨_, _, rfl, hE0⟩, ga⟩
theorem clone_32o {w : World} {a : Option Addr} {g n c : Nat} {L : List Sv} (h : SvAt w g L) (hn : L.length = n) (ha : 0 < n → a = some ⟨g, 0, none⟩) (hn2 : n ≤ 1000000) :
    Calls Try.prog 32 #[.slice a n c] w fun e w' => (∃ a' c', e = .returned (.slice a' n c') ∧ w'.ownsRow w.heap.size 26 2 (.slice a' n c') n (flatS L)) ∧ w.grownBy w' none := by
  by_cases h0 : 0 < n
  · obtain rfl := ha h0
    refine (clone_32p h hn h0 hn2).mono ?_
    rintro e w' ⟨⟨g', c', rfl, hr⟩, hg⟩
    exact ⟨⟨_, c', rfl, hr⟩, hg⟩
  · obtain rfl : n = 0 := by omega
    obtain rfl : L = [] := List.eq_nil_of_length_eq_zero hn
    exact clone_32e
/-- Insert, at any place. -/
theorem insert_36 {w : World} {B n c i gv : Nat} {a : Option Addr} {L : List Sv} {p : Sv} (hrow : w.ownsRow B 26 2 (.slice a n c) n (flatS L)) (hn : L.length = n) (hi : i ≤ n) (hn2 : n ≤ 1000) (hB : B ≤ w.heap.size)
    (hgv : w.heap[gv]? = some (.cells #[.string p.1, .int .i64 p.2] 26 (0, 0))) (hne : ∀ b, (Value.slice a n c).ownBlock = some b → gv ≠ b) :
    Calls Try.prog 36 #[.slice a n c, .int .i64 i, .slice (some ⟨gv, 0, none⟩) 1 1] w fun e w' => (∃ g' c', e = .returned (.slice (some ⟨g', 0, none⟩) (n + 1) c') ∧ SvAt w' g' (insL L i p)) ∧ w.grownBy w' (Value.slice a n c).ownBlock := by
  by_cases hin : i = n
  · subst hin
    exact insert_end hrow hn hn2 hB hgv
  · obtain ⟨_, _, hsh, _, hnc, hcm, hs⟩ := row_shape hrow
    simp only [Value.slice.injEq] at hsh
    obtain ⟨rfl, _, rfl⟩ := hsh
    obtain ⟨b, rfl⟩ := hs (by omega)
    by_cases hroom : n + 1 ≤ c
    · refine (insert_shift hrow hn (by omega) hn2 hroom hgv (hne b rfl)).mono ?_
      rintro e w' ⟨rfl, h1, h2⟩
      exact ⟨⟨b, c, rfl, h1⟩, h2⟩
    · refine (insert_grow hrow hn (by omega) hn2 (by omega) hgv).mono ?_
      rintro e w' ⟨⟨c', rfl⟩, h1, h2⟩
      exact ⟨⟨_, c', rfl, h1⟩, gb_none _ h2⟩
set_option maxHeartbeats 2000000 in
theorem find_33 {w : World} {a : Option Addr} {g n c : Nat} {x2 : Option Addr} {x3 x4 : Nat} {L : List Sv} {t : ByteArray} (hn : L.length = n) (hn2 : n ≤ 1000) (ha : 0 < n → a = some ⟨g, 0, none⟩) (hP : SvAt w g L) (hR : Asc L) :
    Calls Try.prog 33 #[.agg #[.slice a n c, .slice x2 x3 x4], .string t] w fun e w' => (∃ (i : Nat), e = .returned (.tuple #[.int .i64 i, .bool (isAt L t.toList i)]) ∧ Ls L t.toList i) ∧ w.grownBy w' none := by
  have hf1 : w.grownBy (w.alloc (.cells #[.slice a n c, .slice x2 x3 x4] 32)) none := gb_alloc (gb_refl _ _) _
  have c0 : (w.alloc (.cells #[.slice a n c, .slice x2 x3 x4] 32)).cell? ⟨w.heap.size, 0, none⟩ = some (.slice a n c) := by simp
  have h48 := search_48 (c := c) (t := t) hn hn2 ha (hP.grown hf1) hR
  clear hP hR ha
  go_enter Try.func33, Try.ntmps33
  go_wp2_with (go_at_call 48; go_must (refine h48.mono ?_); rintro y w2 ⟨⟨i, rfl, hl⟩, hg2⟩)
  go_ret2
  exact ⟨⟨i, rfl, hl⟩, gb_trans hf1 hg2⟩
/-- Where it stands a server more leaves the names rising. -/
theorem asc_ins {L : List Sv} {i : Nat} {p : Sv} (h : Asc L) (hl : Ls L p.1.toList i) (hf : isAt L p.1.toList i = false) : Asc (insL L i p) := by
  have hle := hl.le
  have hlt : ∀ k, i ≤ k → k < L.length → p.1.toList < (sat L k).1.toList := fun k h1 h2 => by
    have h3 := hl.hi k h1 h2
    rw [List.not_lt] at h3
    refine Std.lt_of_le_of_ne h3 fun e => ?_
    by_cases hki : k = i
    · subst hki
      unfold isAt at hf
      simp [h2, e] at hf
    · have h4 := h i k (by omega) h2
      have h5 := hl.hi i (Nat.le_refl _) (by omega)
      rw [← e] at h4
      exact h5 h4
  have hs : ∀ k, k < L.length + 1 → sat (insL L i p) k = if k < i then sat L k else if k = i then p else sat L (k - 1) := fun k hk => by
    have hta : (L.take i).length = i := by rw [List.length_take]; omega
    unfold insL sat
    rw [List.getD_eq_getElem?_getD]
    by_cases h1 : k < i
    · rw [if_pos h1, List.getElem?_append_left (by omega), List.getElem?_take, if_pos h1, List.getD_eq_getElem?_getD]
    · rw [if_neg h1, List.getElem?_append_right (by omega), hta]
      by_cases h2 : k = i
      · rw [if_pos h2, h2, Nat.sub_self]; rfl
      · rw [if_neg h2]
        obtain ⟨m, rfl⟩ : ∃ m, k = i + 1 + m := ⟨k - i - 1, by omega⟩
        rw [show i + 1 + m - i = m + 1 by omega, List.getElem?_cons_succ, List.getElem?_drop, List.getD_eq_getElem?_getD]
        congr 2
        omega
  intro j k hjk hk
  rw [insL_len L i p hle] at hk
  rw [hs j (by omega), hs k hk]
  by_cases h1 : k < i
  · rw [if_pos (by omega), if_pos h1]
    exact h j k hjk (by omega)
  · rw [if_neg h1]
    by_cases h2 : k = i
    · rw [if_pos h2, if_pos (by omega)]
      exact hl.lo j (by omega)
    · rw [if_neg h2]
      by_cases h3 : j < i
      · rw [if_pos h3]
        exact h j (k - 1) (by omega) (by omega)
      · rw [if_neg h3]
        by_cases h4 : j = i
        · rw [if_pos h4]
          exact hlt (k - 1) (by omega) (by omega)
        · rw [if_neg h4]
          exact h (j - 1) (k - 1) (by omega) (by omega)
theorem ins_perm (L : List Sv) (i : Nat) (p : Sv) : (insL L i p).Perm (p :: L) := by
  unfold insL
  have : (L.take i ++ p :: L.drop i).Perm (p :: (L.take i ++ L.drop i)) := List.perm_middle
  rwa [List.take_append_drop] at this
theorem asc_dst {L : List Sv} (h : Asc L) : Dst L := by
  unfold Dst
  rw [List.Nodup, List.pairwise_map, List.pairwise_iff_getElem]
  intro i j hi hj hij e
  have := h i j hij hj
  rw [sat_eq L i hi, sat_eq L j hj, e] at this
  exact List.lt_irrefl _ this
end Go.Proofs.Ytphhofbdekbggaa
