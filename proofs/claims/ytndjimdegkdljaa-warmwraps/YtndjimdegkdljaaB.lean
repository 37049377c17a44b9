/-
  Names and files, as plain functions and lists.
-/
import Derived.Test.YtndjimdegkdljaaBa
namespace Go.Proofs.Ytndjimdegkdljaa
open Go.RowKit
set_option linter.unusedVariables false
set_option linter.unusedSimpArgs false

abbrev Bs := List UInt8
/-- A string as a value. -/
abbrev sv (s : Bs) : Value := .string ⟨s.toArray⟩
theorem sv_inj {a b : Bs} (h : sv a = sv b) : a = b := by
  simp only [sv, Value.string.injEq, ByteArray.mk.injEq] at h
  have := congrArg Array.toList h
  simpa using this
/-- Which name has which file. -/
abbrev NS := Bs → Option Nat
def ups (m : NS) (s : Bs) (v : Option Nat) : NS := fun t => if t = s then v else m t
/-- A change: a file f that had the name fr (none, if that is empty) has the name nw (or none). -/
structure Ch where
  fr : Bs
  nw : Bs
  f : Nat
def Ch.app (c : Ch) (m : NS) : NS := fun s => if c.nw ≠ [] ∧ s = c.nw then some c.f else if s = c.fr then none else m s
def after (m : NS) (l : List Ch) : NS := l.foldl (fun m c => c.app m) m
theorem after_nil (m : NS) : after m [] = m := rfl
theorem after_snoc (m : NS) (l : List Ch) (c : Ch) : after m (l ++ [c]) = c.app (after m l) := by simp [after]

/-- A list of names that tells the same as the function. -/
structure Rep (L : List (Bs × Nat)) (m : NS) : Prop where
  nd : (L.map Prod.fst).Nodup
  lk : ∀ s, L.lookup s = m s
theorem Rep.nil : Rep [] (fun _ => none) := ⟨by simp, fun s => rfl⟩
theorem lk_mem {L : List (Bs × Nat)} {s : Bs} {k : Nat} (h : L.lookup s = some k) : (s, k) ∈ L := by
  induction L with
  | nil => simp at h
  | cons p t ih =>
    obtain ⟨a, b⟩ := p
    rw [List.lookup_cons] at h
    by_cases hs : s = a
    · subst hs; simp at h; subst h; simp
    · have : (s == a) = false := by simpa using hs
      rw [this] at h
      exact List.mem_cons_of_mem _ (ih h)
theorem lk_none {L : List (Bs × Nat)} {s : Bs} (h : L.lookup s = none) : s ∉ L.map Prod.fst := by
  induction L with
  | nil => simp
  | cons p t ih =>
    obtain ⟨a, b⟩ := p
    rw [List.lookup_cons] at h
    by_cases hs : s = a
    · subst hs; simp at h
    · have : (s == a) = false := by simpa using hs
      rw [this] at h
      simp only [List.map_cons, List.mem_cons, not_or]
      exact ⟨hs, ih h⟩
theorem mem_lk {L : List (Bs × Nat)} (hn : (L.map Prod.fst).Nodup) {s : Bs} {k : Nat} (h : (s, k) ∈ L) : L.lookup s = some k := by
  induction L with
  | nil => simp at h
  | cons p t ih =>
    obtain ⟨a, b⟩ := p
    simp only [List.map_cons, List.nodup_cons] at hn
    rcases List.mem_cons.1 h with h | h'
    · injection h with h1 h2
      subst h1 h2
      simp
    · have hs : s ≠ a := fun e => hn.1 (by subst e; exact List.mem_map_of_mem (f := Prod.fst) h')
      rw [List.lookup_cons, show (s == a) = false by simpa using hs]
      exact ih hn.2 h'
theorem Rep.mem {L : List (Bs × Nat)} {m : NS} (h : Rep L m) {s : Bs} {k : Nat} : (s, k) ∈ L ↔ m s = some k := by
  rw [← h.lk]
  exact ⟨mem_lk h.nd, lk_mem⟩
theorem Rep.of {L : List (Bs × Nat)} {m : NS} (hn : (L.map Prod.fst).Nodup) (hm : ∀ s k, (s, k) ∈ L ↔ m s = some k) : Rep L m := by
  refine ⟨hn, fun s => ?_⟩
  cases h : L.lookup s with
  | some k => exact ((hm s k).1 (lk_mem h)).symm
  | none =>
    cases h2 : m s with
    | none => rfl
    | some k =>
      have := mem_lk hn ((hm s k).2 h2)
      rw [h] at this
      cases this
/-- Without a name. -/
theorem Rep.without {L : List (Bs × Nat)} {m : NS} (h : Rep L m) (s : Bs) : Rep (L.filter (fun p => p.1 ≠ s)) (ups m s none) := by
  refine Rep.of ?_ fun t k => ?_
  · exact List.Sublist.nodup (List.Sublist.map _ List.filter_sublist) h.nd
  · simp only [List.mem_filter, decide_eq_true_eq, h.mem, ups]
    by_cases ht : t = s
    · subst ht; simp
    · simp [ht]
theorem Rep.push {L : List (Bs × Nat)} {m : NS} (h : Rep L m) {s : Bs} (hs : m s = none) (k : Nat) : Rep (L ++ [(s, k)]) (ups m s (some k)) := by
  have hn := lk_none (L := L) (s := s) (by rw [h.lk]; exact hs)
  refine Rep.of ?_ fun t j => ?_
  · rw [List.map_append, List.nodup_append]
    refine ⟨h.nd, by simp, fun a ha b hb => ?_⟩
    simp only [List.map_cons, List.map_nil, List.mem_singleton] at hb
    subst hb
    exact fun e => hn (e ▸ ha)
  · simp only [List.mem_append, List.mem_singleton, h.mem, ups, Prod.mk.injEq]
    by_cases ht : t = s
    · subst ht
      simp only [hs, true_and, if_true, reduceCtorEq, false_or, Option.some.injEq]
      exact eq_comm
    · simp [ht]
/-- The name's file is another one. -/
def reset (L : List (Bs × Nat)) (s : Bs) (k : Nat) : List (Bs × Nat) := L.map fun p => if p.1 = s then (s, k) else p
theorem reset_keys (L : List (Bs × Nat)) (s : Bs) (k : Nat) : (reset L s k).map Prod.fst = L.map Prod.fst := by
  simp only [reset, List.map_map]
  refine List.map_congr_left fun p hp => ?_
  simp only [Function.comp]
  split
  · next h => exact h.symm
  · rfl
theorem Rep.reset {L : List (Bs × Nat)} {m : NS} (h : Rep L m) {s : Bs} {j : Nat} (hs : m s = some j) (k : Nat) : Rep (reset L s k) (ups m s (some k)) := by
  refine Rep.of (by rw [reset_keys]; exact h.nd) fun t i => ?_
  simp only [Ytndjimdegkdljaa.reset, List.mem_map, ups]
  constructor
  · rintro ⟨⟨a, b⟩, hp, he⟩
    simp only at he
    split at he
    · injection he with e1 e2
      subst e1 e2
      simp
    · next hne =>
      injection he with e1 e2
      subst e1 e2
      rw [if_neg hne]
      exact h.mem.1 hp
  · intro he
    by_cases ht : t = s
    · subst ht
      rw [if_pos rfl] at he
      injection he with he
      subst he
      exact ⟨(t, j), h.mem.2 hs, by simp⟩
    · rw [if_neg ht] at he
      exact ⟨(t, i), h.mem.2 he, by simp [ht]⟩
theorem nodup_of {α β : Type} (f : α → β) : ∀ {l : List α}, (l.map f).Nodup → l.Nodup
  | [], _ => List.nodup_nil
  | a :: l, h => by
    simp only [List.map_cons, List.nodup_cons] at h
    exact List.nodup_cons.2 ⟨fun ha => h.1 (List.mem_map_of_mem (f := f) ha), nodup_of f h.2⟩
theorem Rep.nodup {L : List (Bs × Nat)} {m : NS} (h : Rep L m) : L.Nodup := nodup_of _ h.nd
theorem Rep.perm {L L' : List (Bs × Nat)} {m : NS} (h : Rep L m) (h' : Rep L' m) : L.Perm L' := by
  refine (List.perm_ext_iff_of_nodup h.nodup h'.nodup).2 fun p => ?_
  obtain ⟨s, k⟩ := p
  rw [h.mem, h'.mem]
/-- What a change makes of a list. -/
theorem Rep.app {L : List (Bs × Nat)} {m : NS} (h : Rep L m) (c : Ch) (ht : c.nw = []) : Rep (L.filter (fun p => p.1 ≠ c.fr)) (c.app m) := by
  have := h.without c.fr
  have e : c.app m = ups m c.fr none := by
    funext s
    simp [Ch.app, ups, ht]
  rw [e]; exact this
theorem Rep.app' {L : List (Bs × Nat)} {m : NS} (h : Rep L m) (c : Ch) (ht : c.nw ≠ []) : Rep ((L.filter (fun p => p.1 ≠ c.fr)).filter (fun p => p.1 ≠ c.nw) ++ [(c.nw, c.f)]) (c.app m) := by
  have h1 := ((h.without c.fr).without c.nw).push (s := c.nw) (by simp [ups]) c.f
  have e : c.app m = ups (ups (ups m c.fr none) c.nw none) c.nw (some c.f) := by
    funext s
    simp only [Ch.app, ups, ht, ne_eq, not_false_eq_true, true_and]
    by_cases hs : s = c.nw
    · simp [hs]
    · simp [hs]
  rw [e]; exact h1
end Go.Proofs.Ytndjimdegkdljaa
