/-
  RingRound: what is wanted for its walk.
-/
import Derived.Test.YtphhofbdekbggaaSe
namespace Go.Proofs.Ytphhofbdekbggaa
open Go.RowKit
set_option linter.unusedVariables false
set_option linter.unusedSimpArgs false

/-- Keys that came in. -/
def KeysIn (w : World) (a : Option Addr) (n : Nat) : Prop := ∀ i, i < n → ∃ (b o : Nat) (ka : Option Addr) (kn kc : Nat) (xs : List Int), a = some ⟨b, o, none⟩ ∧ w.cell? ⟨b, o + i, none⟩ = some (.slice ka kn kc) ∧ Has w ka kn xs ∧ isBytes xs ∧ kn ≤ 281474976710656
theorem KeysIn.grown {w w' : World} {a : Option Addr} {n : Nat} (h : KeysIn w a n) (hf : w.grownBy w' none) : KeysIn w' a n := fun i hi => by
  obtain ⟨b, o, ka, kn, kc, xs, h1, h2, h3, h4, h5⟩ := h i hi
  exact ⟨b, o, ka, kn, kc, xs, h1, gb_cellN hf h2, h3.kept0 hf, h4, h5⟩
theorem few_rg {w : World} {C n : Nat} {v : Value} {K : List Sv} (h : w.ownsRow C 26 2 v n (flatS K)) (hn : K.length = n) (hn2 : n ≤ 260) :
    Calls Try.prog 8 #[v] w fun e w' => (∃ u, e = .returned u ∧ w'.ownsRow w.heap.size 26 2 u n (flatS K)) ∧ w.grownBy w' none := by
  obtain ⟨a, c, rfl, h1, h2, h3, h4⟩ := row_shape h
  by_cases h0 : 0 < n
  · obtain ⟨g, rfl⟩ := h4 h0
    exact few_8 (fun i hi => serv_cell h hn i (by omega)) hn (fun _ => rfl) hn2
  · obtain rfl : n = 0 := by omega
    exact few_8 (g := 0) (fun i hi => by omega) hn (by omega) hn2
/-- A ring of servers has points. -/
theorem Rg.some {w : World} {v : Value} {L : List Sv} {ps : List Pt} (h : Rg w v L ps) (h0 : 0 < L.length) : 0 < ps.length := by
  have hok := svOk_wt (h.ok _ (sat_mem L 0 h0))
  obtain ⟨p, hp, _⟩ := h.ci.at 0 0 h0 (by rw [own_len]; omega)
  exact List.length_pos_of_mem hp
theorem Rg.none {w : World} {v : Value} {L : List Sv} {ps : List Pt} (h : Rg w v L ps) (h0 : L.length = 0) : ps.length = 0 := by
  have := h.pl
  omega
theorem srv_firstN (ps : List Pt) (i k : Nat) : srv ps (firstN ps.length i) k = srv ps i k := by
  unfold srv firstN
  by_cases h : i = ps.length
  · rw [if_pos h, h, Nat.zero_add, Nat.add_mod_left]
  · rw [if_neg h]
theorem pre_firstN (ps : List Pt) (i : Nat) : ∀ k, pre ps (firstN ps.length i) k = pre ps i k
  | 0 => rfl
  | k + 1 => by
    unfold pre
    rw [pre_firstN ps i k, srv_firstN]
theorem pre_first (ps : List Pt) (i : Nat) (h : 0 < ps.length) (hi : i ≤ ps.length) : ∃ t, pre ps i ps.length = (pat ps (firstN ps.length i)).2.1 :: t := by
  obtain ⟨t, ht⟩ := pre_more ps i 1 (ps.length - 1)
  rw [show 1 + (ps.length - 1) = ps.length by omega] at ht
  have h1 : pre ps i 1 = [srv ps i 0] := by simp [pre]
  rw [h1] at ht
  refine ⟨t, ?_⟩
  rw [ht, ← srv_firstN]
  unfold srv
  have : firstN ps.length i < ps.length := by unfold firstN; split <;> omega
  rw [Nat.add_zero, Nat.mod_eq_of_lt this]
  rfl
theorem len_bound : ∀ (n : Nat) (l : List Int), l.Nodup → (∀ x ∈ l, 0 ≤ x ∧ x < (n : Int)) → l.length ≤ n := fun n l hn hb => by
  have := nodup_len (m := (List.range n).map fun (i : Nat) => (i : Int)) hn fun x hx => by
    obtain ⟨h1, h2⟩ := hb x hx
    exact List.mem_map.2 ⟨x.toNat, by simp; omega, by omega⟩
  simpa using this
/-- No more servers are met than there are. -/
theorem pre_few {L : List Sv} {ps : List Pt} (h : Circle L ps) (i : Nat) : (pre ps i ps.length).length ≤ L.length := by
  refine len_bound _ _ (pre_nodup _ _ _) fun x hx => ?_
  obtain ⟨j, hj, rfl⟩ := pre_mem ps i _ x hx
  exact h.sv _ (Nat.mod_lt _ (by omega))
end Go.Proofs.Ytphhofbdekbggaa
