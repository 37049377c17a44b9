import Derived.Test.YtndjimdegkdljaaMg
import Derived.Test.YtndjimdegkdljaaN
/-
  A range over the names of a disk.
-/
namespace Go.Proofs.Ytndjimdegkdljaa
open Go.RowKit Go.MapKept
open Go.ChangeMaps (setBlock)
set_option linter.unusedVariables false
set_option linter.unusedSimpArgs false
attribute [local go_sem] Oper.semAt_some

theorem rg_start {w : World} {b : Nat} {es : Array MapEntry} {cl : Nat} (hb : w.heap[b]? = some (.map es cl)) :
    (Instr.range 71 (.map (some b))).run Try.prog w = .ok (.pointer (some ⟨w.heap.size, 0, none⟩)) (w.alloc (.mapIter (some b) cl #[] cl)) := by
  simp [Instr.range, run_underlying Try.underlying71, Go.MapKept.run_getObj_map hb, Result.andThen]
/-- The entries of a map, with what they tell. -/
structure Ent (es : Array MapEntry) (fb : Nat → Nat) (m : NS) (dec : MapEntry → Bs × Nat) : Prop where
  sp : ∀ e ∈ es.toList, e.key = sv (dec e).1 ∧ e.val = pv (fb (dec e).2) ∧ m (dec e).1 = some (dec e).2
  rep : Rep (es.toList.map dec) m
theorem NmR.ent {es : Array MapEntry} {cl : Nat} {fb : Nat → Nat} {m : NS} (h : NmR es fb m) (hs : Stamped es cl) : ∃ dec, Ent es fb m dec := by
  have hc : ∀ e : MapEntry, ∃ p : Bs × Nat, e ∈ es.toList → e.key = sv p.1 ∧ e.val = pv (fb p.2) ∧ m p.1 = some p.2 := fun e => by
    by_cases he : e ∈ es.toList
    · obtain ⟨s, k, h1, h2, h3⟩ := h.dn e he
      exact ⟨(s, k), fun _ => ⟨h1, h2, h3⟩⟩
    · exact ⟨([], 0), fun h => absurd h he⟩
  obtain ⟨dec, hd⟩ := Classical.axiomOfChoice hc
  refine ⟨dec, fun e he => hd e he, Rep.of ?_ fun s k => ?_⟩
  · rw [List.map_map]
    have hk := ((stamped_iff es cl).1 hs).2.2
    rw [List.Nodup, List.pairwise_map]
    refine hk.imp_of_mem (fun {x y} hx hy hxy e => hxy ?_)
    rw [(hd x hx).1, (hd y hy).1]
    exact congrArg sv e
  · rw [List.mem_map]
    constructor
    · rintro ⟨e, he, e1⟩
      have := (hd e he).2.2
      rw [e1] at this
      exact this
    · intro hm
      obtain ⟨e, he, h1, h2⟩ := h.up s k hm
      obtain ⟨a1, a2, a3⟩ := hd e he
      have e1 : (dec e).1 = s := sv_inj (a1.symm.trans h1)
      refine ⟨e, he, ?_⟩
      rw [e1, hm] at a3
      exact Prod.ext e1 (Option.some.inj a3).symm
theorem perm_pick {l : List MapEntry} (hn : (l.map (·.born)).Nodup) {e : MapEntry} (he : e ∈ l) : l.Perm (e :: l.filter (fun x => x.born ≠ e.born)) := by
  induction l with
  | nil => cases he
  | cons a l ih =>
    simp only [List.map_cons, List.nodup_cons] at hn
    rcases List.mem_cons.1 he with rfl | he'
    · rw [List.filter_cons, if_neg (by simp), List.filter_eq_self.2 (fun x hx => by
        simp only [ne_eq, decide_not, Bool.not_eq_eq_eq_not, Bool.not_true, decide_eq_false_iff_not]
        exact fun hb => hn.1 (List.mem_map.2 ⟨x, hx, hb⟩))]
    · have hne : a.born ≠ e.born := fun hb => hn.1 (List.mem_map.2 ⟨e, he', hb.symm⟩)
      rw [List.filter_cons, if_pos (by simpa using hne)]
      exact ((ih hn.2 he').cons a).trans (List.Perm.swap e a _)
theorem left_push (es : Array MapEntry) (seen : Array Nat) (b : Nat) : (leftOf es (seen.push b)).toList = (leftOf es seen).toList.filter (fun x => x.born ≠ b) := by
  unfold leftOf
  simp only [Array.toList_filter, List.filter_filter]
  refine List.filter_congr fun x _ => ?_
  simp [Array.contains_push]
  cases h : (x.born == b) <;> simp_all
theorem left_sub (es : Array MapEntry) (seen : Array Nat) : (leftOf es seen).toList.Sublist es.toList := by
  unfold leftOf
  rw [Array.toList_filter]
  exact List.filter_sublist
end Go.Proofs.Ytndjimdegkdljaa
