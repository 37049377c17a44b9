/-
  Names in memory: a map from names to files.
-/
import Derived.Test.YtndjimdegkdljaaB
import Derived.MapKept
import Derived.Maps.RangeRun
namespace Go.Proofs.Ytndjimdegkdljaa
open Go.RowKit Go.MapKept
set_option linter.unusedVariables false
set_option linter.unusedSimpArgs false

abbrev pv (b : Nat) : Value := .pointer (some ⟨b, 0, none⟩)
theorem pv_inj {a b : Nat} (h : pv a = pv b) : a = b := by
  simp only [pv, Value.pointer.injEq, Option.some.injEq, Addr.mk.injEq] at h
  exact h.1
theorem key9 (s : Bs) : IsKey .string (sv s) := trivial
/-- What entries tell: file k lies in block fb k. -/
structure NmR (es : Array MapEntry) (fb : Nat → Nat) (m : NS) : Prop where
  dn : ∀ e ∈ es.toList, ∃ s k, e.key = sv s ∧ e.val = pv (fb k) ∧ m s = some k
  up : ∀ s k, m s = some k → ∃ e ∈ es.toList, e.key = sv s ∧ e.val = pv (fb k)
theorem NmR.key {es : Array MapEntry} {fb : Nat → Nat} {m : NS} (h : NmR es fb m) : ∀ x ∈ es.toList, IsKey .string x.key := fun x hx => by
  obtain ⟨s, k, h1, _⟩ := h.dn x hx
  rw [h1]; exact key9 s
/-- Block b is such a map. -/
def NmM (w : World) (b : Nat) (fb : Nat → Nat) (m : NS) : Prop := ∃ es clock, w.heap[b]? = some (.map es clock) ∧ Stamped es clock ∧ NmR es fb m
theorem NmM.lt {w : World} {b : Nat} {fb : Nat → Nat} {m : NS} (h : NmM w b fb m) : b < w.heap.size := by
  obtain ⟨es, cl, h1, _⟩ := h; exact lt_of_block h1
theorem NmM.same {w w' : World} {b : Nat} {fb : Nat → Nat} {m : NS} (h : NmM w b fb m) (e : w'.heap[b]? = w.heap[b]?) : NmM w' b fb m := by
  obtain ⟨es, cl, h1, h2⟩ := h; exact ⟨es, cl, e.trans h1, h2⟩
theorem NmM.kept {w w' : World} {b : Nat} {fb : Nat → Nat} {m : NS} {row : Option Nat} (h : NmM w b fb m) (hg : w.grownBy w' row) (hne : some b ≠ row) : NmM w' b fb m := h.same (hg.block b h.lt hne)
theorem NmM.made (w : World) (fb : Nat → Nat) : NmM (w.alloc (.map #[] 0)) w.heap.size fb (fun _ => none) :=
  ⟨#[], 0, heap_alloc_new w _, stamped_empty 0, ⟨fun e he => by simp at he, fun s k h => by simp at h⟩⟩
theorem NmM.fb {w : World} {b : Nat} {fb fb' : Nat → Nat} {m : NS} (h : NmM w b fb m) (e : ∀ s k, m s = some k → fb' k = fb k) : NmM w b fb' m := by
  obtain ⟨es, cl, h1, h2, h3⟩ := h
  refine ⟨es, cl, h1, h2, fun x hx => ?_, fun s k hk => ?_⟩
  · obtain ⟨s, k, a1, a2, a3⟩ := h3.dn x hx
    exact ⟨s, k, a1, by rw [e s k a3]; exact a2, a3⟩
  · obtain ⟨x, hx, a1, a2⟩ := h3.up s k hk
    exact ⟨x, hx, a1, by rw [e s k hk]; exact a2⟩
theorem NmM.congr {w : World} {b : Nat} {fb : Nat → Nat} {m m' : NS} (h : NmM w b fb m) (e : ∀ s, m' s = m s) : NmM w b fb m' := by
  have : m' = m := funext e
  rw [this]; exact h

/-- What a lookup tells. -/
def lkv (fb : Nat → Nat) : Option Nat → Value
  | some k => pv (fb k)
  | none => .pointer none
theorem zero94 (w : World) : (zeroValue 94).run Try.prog w = .ok (.pointer none) w := by kernel_rfl
theorem stamped_one {es : Array MapEntry} {cl : Nat} (h : Stamped es cl) {x y : MapEntry} (hx : x ∈ es.toList) (hy : y ∈ es.toList) (e : x.key = y.key) : x = y :=
  entry_eq_of_key ((stamped_iff es cl).1 h).2.2 hx hy e
theorem gb_block {w : World} {r : Nat} {o : Obj} : w.grownBy { w with heap := w.heap.setIfInBounds r o } (some r) :=
  ⟨rfl, rfl, rfl, by simp, fun i hi hn => by
    have : i ≠ r := fun e => hn (by rw [e])
    simp [Ne.symm this]⟩

theorem nm_look {w : World} {b : Nat} {fb : Nat → Nat} {m : NS} (h : NmM w b fb m) (s : Bs) : (Instr.lookup 71 (.map (some b)) (sv s) false).run Try.prog w = .ok (lkv fb (m s)) w := by
  obtain ⟨es, cl, hb, hs, hr⟩ := h
  rcases findNow_spec (key9 s) es.toList 0 hr.key with ⟨h1, h2⟩ | ⟨j, e, h1, h2, h3⟩
  · have hm : m s = none := by
      cases hm : m s with
      | none => rfl
      | some k =>
        obtain ⟨x, hx, a1, _⟩ := hr.up s k hm
        exact absurd a1 (h2 x hx)
    rw [hm]
    simp [Instr.lookup, run_underlying Try.underlying71, Go.MapKept.run_getObj_map hb, Go.MapKept.run_checkKey Try.underlying9 (key9 s), Go.MapKept.run_findKey Try.underlying9 h1, zero94, Result.andThen, lkv]
  · obtain ⟨s', k, a1, a2, a3⟩ := hr.dn e (List.mem_of_getElem? h2)
    have : s' = s := sv_inj (a1.symm.trans h3)
    subst this
    rw [a3]
    simp [Instr.lookup, run_underlying Try.underlying71, Go.MapKept.run_getObj_map hb, Go.MapKept.run_checkKey Try.underlying9 (key9 s'), Go.MapKept.run_findKey Try.underlying9 h1, Result.andThen, lkv, a2]

theorem nm_del {w : World} {b : Nat} {fb : Nat → Nat} {m : NS} (h : NmM w b fb m) (s : Bs) (ty : TypeId) :
    ∃ w', (Builtin.delete_ #[71, 9] ty #[.map (some b), sv s]).run Try.prog w = .ok (.tuple #[]) w' ∧ NmM w' b fb (ups m s none) ∧ w.grownBy w' (some b) := by
  obtain ⟨es, cl, hb, hs, hr⟩ := h
  rcases findNow_spec (key9 s) es.toList 0 hr.key with ⟨h1, h2⟩ | ⟨j, e, h1, h2, h3⟩
  · refine ⟨{ w with heap := w.heap.setIfInBounds b (.map es cl) }, by
      simp [Builtin.delete_, run_underlying Try.underlying71, Go.MapKept.run_getObj_map hb, Go.MapKept.run_checkKey Try.underlying9 (key9 s), Go.MapKept.run_findKey Try.underlying9 h1, Go.MapKept.run_setObj_map _ hb, Result.andThen], ⟨es, cl, (heap_set hb).1, hs, ?_, ?_⟩, gb_block⟩
    · intro x hx
      obtain ⟨t, k, a1, a2, a3⟩ := hr.dn x hx
      have hts : t ≠ s := fun e => h2 x hx (by rw [a1, e])
      exact ⟨t, k, a1, a2, by simp [ups, hts, a3]⟩
    · intro t k hk
      have hts : t ≠ s := fun e => by simp [ups, e] at hk
      exact hr.up t k (by simpa [ups, hts] using hk)
  · have hj : j < es.toList.length := (List.getElem?_eq_some_iff.1 h2).1
    have hspl : es.toList = es.toList.take j ++ e :: es.toList.drop (j + 1) := by
      have := (List.getElem?_eq_some_iff.1 h2).2
      rw [← this, List.getElem_cons_drop, List.take_append_drop]
    have her : (es.eraseIdxIfInBounds j).toList = es.toList.take j ++ es.toList.drop (j + 1) := by
      have : j < es.size := by simpa using hj
      simp only [Array.eraseIdxIfInBounds, this, dite_true, Array.toList_eraseIdx]
      exact List.eraseIdx_eq_take_drop_succ _ _
    have hmem : ∀ x, x ∈ (es.eraseIdxIfInBounds j).toList ↔ x ∈ es.toList ∧ x.key ≠ sv s := by
      intro x
      have hkeys := ((stamped_iff es cl).1 hs).2.2
      rw [her]
      rw [hspl] at hkeys
      rw [List.pairwise_append] at hkeys
      obtain ⟨k1, k2, k3⟩ := hkeys
      rw [List.pairwise_cons] at k2
      constructor
      · intro hx
        rcases List.mem_append.1 hx with hx | hx
        · exact ⟨by rw [hspl]; exact List.mem_append_left _ hx, by rw [← h3]; exact k3 x hx e (by simp)⟩
        · exact ⟨by rw [hspl]; exact List.mem_append_right _ (List.mem_cons_of_mem _ hx), by rw [← h3]; exact fun q => k2.1 x hx q.symm⟩
      · rintro ⟨hx, hne⟩
        rw [hspl] at hx
        rcases List.mem_append.1 hx with hx | hx
        · exact List.mem_append_left _ hx
        · rcases List.mem_cons.1 hx with rfl | hx
          · exact absurd h3 hne
          · exact List.mem_append_right _ hx
    refine ⟨{ w with heap := w.heap.setIfInBounds b (.map (es.eraseIdxIfInBounds j) cl) }, by
      simp [Builtin.delete_, run_underlying Try.underlying71, Go.MapKept.run_getObj_map hb, Go.MapKept.run_checkKey Try.underlying9 (key9 s), Go.MapKept.run_findKey Try.underlying9 h1, Go.MapKept.run_setObj_map _ hb, Result.andThen], ⟨_, cl, (heap_set hb).1, stamped_erase hs j, ?_, ?_⟩, gb_block⟩
    · intro x hx
      obtain ⟨hx1, hx2⟩ := (hmem x).1 hx
      obtain ⟨t, k, a1, a2, a3⟩ := hr.dn x hx1
      have hts : t ≠ s := fun e => hx2 (by rw [a1, e])
      exact ⟨t, k, a1, a2, by simp [ups, hts, a3]⟩
    · intro t k hk
      have hts : t ≠ s := fun e => by simp [ups, e] at hk
      obtain ⟨x, hx, a1, a2⟩ := hr.up t k (by simpa [ups, hts] using hk)
      exact ⟨x, (hmem x).2 ⟨hx, by rw [a1]; exact fun q => hts (sv_inj q)⟩, a1, a2⟩

theorem nm_set {w : World} {b : Nat} {fb : Nat → Nat} {m : NS} (h : NmM w b fb m) (s : Bs) (k : Nat) :
    ∃ w', (Instr.mapUpdate 71 (.map (some b)) (sv s) (pv (fb k))).run Try.prog w = .ok () w' ∧ NmM w' b fb (ups m s (some k)) ∧ w.grownBy w' (some b) := by
  obtain ⟨es, cl, hb, hs, hr⟩ := h
  rcases findNow_spec (key9 s) es.toList 0 hr.key with ⟨h1, h2⟩ | ⟨j, e, h1, h2, h3⟩
  · refine ⟨{ w with heap := w.heap.setIfInBounds b (.map (es.push { key := sv s, val := pv (fb k), born := cl }) (cl + 1)) }, by
      simp [Instr.mapUpdate, run_underlying Try.underlying71, Go.MapKept.run_getObj_map hb, Go.MapKept.run_checkKey Try.underlying9 (key9 s), Go.MapKept.run_findKey Try.underlying9 h1, Go.MapKept.run_setObj_map _ hb, Result.andThen], ⟨_, _, (heap_set hb).1, stamped_push hs h2, ?_, ?_⟩, gb_block⟩
    · intro x hx
      simp only [Array.toList_push, List.mem_append, List.mem_singleton] at hx
      rcases hx with hx | rfl
      · obtain ⟨t, i, a1, a2, a3⟩ := hr.dn x hx
        have hts : t ≠ s := fun e => h2 x hx (by rw [a1, e])
        exact ⟨t, i, a1, a2, by simp [ups, hts, a3]⟩
      · exact ⟨s, k, rfl, rfl, by simp [ups]⟩
    · intro t i hi
      by_cases hts : t = s
      · subst hts
        simp only [ups, if_true, Option.some.injEq] at hi
        subst hi
        exact ⟨_, by simp only [Array.toList_push, List.mem_append, List.mem_singleton]; exact .inr rfl, rfl, rfl⟩
      · obtain ⟨x, hx, a1, a2⟩ := hr.up t i (by simpa [ups, hts] using hi)
        exact ⟨x, by simp only [Array.toList_push, List.mem_append]; exact .inl hx, a1, a2⟩
  · have hj : es[j]? = some e := by simpa using h2
    have hget : ∀ i : Nat, (es.modify j fun e => { e with key := sv s, val := pv (fb k) }).toList[i]? = if j = i then (es.toList[i]?).map (fun e => { e with key := sv s, val := pv (fb k) }) else es.toList[i]? := by
      intro i
      simp only [Array.getElem?_toList, Array.getElem?_modify]
    refine ⟨{ w with heap := w.heap.setIfInBounds b (.map (es.modify j fun e => { e with key := sv s, val := pv (fb k) }) cl) }, by
      simp [Instr.mapUpdate, run_underlying Try.underlying71, Go.MapKept.run_getObj_map hb, Go.MapKept.run_checkKey Try.underlying9 (key9 s), Go.MapKept.run_findKey Try.underlying9 h1, hj, h3, run_keyThatStays (key9 s), Go.MapKept.run_setObj_map _ hb, Result.andThen], ⟨_, _, (heap_set hb).1, stamped_modify hs _ _ (fun _ _ => rfl) (fun e' _ he' => by rw [hj] at he'; cases he'; exact h3.symm), ?_, ?_⟩, gb_block⟩
    · intro x hx
      obtain ⟨i, hi⟩ := List.mem_iff_getElem?.1 hx
      rw [hget] at hi
      split at hi
      · next hji =>
        subst hji
        rw [h2] at hi
        simp only [Option.map_some, Option.some.injEq] at hi
        subst hi
        exact ⟨s, k, rfl, rfl, by simp [ups]⟩
      · next hji =>
        have hx' := List.mem_of_getElem? hi
        obtain ⟨t, l, a1, a2, a3⟩ := hr.dn x hx'
        have hts : t ≠ s := fun q => hji (by
          have hxe := stamped_one hs hx' (List.mem_of_getElem? h2) (by rw [a1, h3, q])
          subst hxe
          have hnd := hs.2.1
          exact (List.getElem?_inj (List.getElem?_eq_some_iff.1 h2).1 (nodup_of _ hnd)).1 (h2.trans hi.symm))
        exact ⟨t, l, a1, a2, by simp [ups, hts, a3]⟩
    · intro t i hi
      by_cases hts : t = s
      · subst hts
        simp only [ups, if_true, Option.some.injEq] at hi
        subst hi
        exact ⟨{ e with key := sv t, val := pv (fb k) }, List.mem_iff_getElem?.2 ⟨j, by rw [hget, if_pos rfl, h2]; rfl⟩, rfl, rfl⟩
      · obtain ⟨x, hx, a1, a2⟩ := hr.up t i (by simpa [ups, hts] using hi)
        obtain ⟨l, hl⟩ := List.mem_iff_getElem?.1 hx
        have hjl : j ≠ l := fun q => by
          subst q
          rw [h2] at hl
          cases hl
          exact hts (sv_inj (a1.symm.trans h3))
        exact ⟨x, List.mem_iff_getElem?.2 ⟨l, by rw [hget, if_neg hjl]; exact hl⟩, a1, a2⟩
end Go.Proofs.Ytndjimdegkdljaa
