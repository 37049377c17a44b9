/-
  A map from places to ranks.
-/
import Derived.Test.YtphhofbdekbggaaRt
import Derived.MapKept
import Derived.Maps.RangeRun
namespace Go.Proofs.Ytphhofbdekbggaa
open Go.RowKit Go.MapKept
set_option linter.unusedVariables false
set_option linter.unusedSimpArgs false

theorem fields101 : (Try.prog.fieldsOf 101).toList.map (fun f => (decide (f.name ≠ "_"), f.type, f.offset)) = [(true, 47, 0), (true, 3, 1)] := by kernel_rfl
set_option maxRecDepth 100000 in
theorem eq_place (a s a' s' : Int) (w : World) : (Op.equal 101 (.agg #[.int .u32 a, .int .i64 s]) (.agg #[.int .u32 a', .int .i64 s'])).run Try.prog w = .ok (decide (a = a' ∧ s = s')) w := by
  have h := run_equalIn_agg (P := Try.prog) w 9999 101 #[.int .u32 a, .int .i64 s] #[.int .u32 a', .int .i64 s'] (by kernel_rfl) (by kernel_rfl)
  have hf := fields101
  obtain ⟨f0, t1, e1, e2, e3⟩ := List.map_eq_cons_iff.1 hf
  obtain ⟨f1, t2, e4, e5, e6⟩ := List.map_eq_cons_iff.1 e3
  have e7 := List.map_eq_nil_iff.1 e6
  subst e7
  subst e4
  rw [e1] at h
  simp only [Prod.mk.injEq, decide_eq_true_eq] at e2 e5
  have p0 : ∀ (x : Int) (y : Int) (w : World), (Go.part 47 #[.int .u32 x, .int .i64 y] 0).run Try.prog w = .ok (.int .u32 x) w := fun x y w => by kernel_rfl
  have p1 : ∀ (x : Int) (y : Int) (w : World), (Go.part 3 #[.int .u32 x, .int .i64 y] 1).run Try.prog w = .ok (.int .i64 y) w := fun x y w => by kernel_rfl
  show (Op.equalIn (9999 + 1) 101 _ _).run Try.prog w = _
  rw [h]
  have q0 : ∀ x y w, (Op.equalIn 9999 47 (.int .u32 x) (.int .u32 y)).run Try.prog w = .ok (x == y) w := fun x y w => run_equalIn_int (P := Try.prog) w 9998 47 .u32 .u32 x y Try.underlying47
  have q1 : ∀ x y w, (Op.equalIn 9999 3 (.int .i64 x) (.int .i64 y)).run Try.prog w = .ok (x == y) w := fun x y w => run_equalIn_int (P := Try.prog) w 9998 3 .i64 .i64 x y Try.underlying3
  simp only [Op.eqFields, e2.1, e5.1, e2.2.1, e2.2.2, e5.2.1, e5.2.2, ne_eq, not_false_eq_true, if_true, Sem.run_bind, p0, p1, Result.andThen_ok, q0, q1]
  by_cases h1 : a = a'
  · by_cases h2 : s = s'
    · simp [h1, h2, p1, q1, Result.andThen]
    · simp [h1, h2, p1, q1, Result.andThen]
  · simp [h1]
theorem chk_place (a s : Int) (w : World) (e : Bool) : (Instr.checkKey e 10000 101 (.agg #[.int .u32 a, .int .i64 s])).run Try.prog w = .ok () w := by kernel_rfl
/-- A place as a key. -/
def keyV (a s : Int) : Value := .agg #[.int .u32 a, .int .i64 s]
theorem keyV_inj {a s a' s' : Int} (h : keyV a s = keyV a' s') : a = a' ∧ s = s' := by
  simp only [keyV, Value.agg.injEq, Array.mk.injEq, List.cons.injEq, Value.int.injEq] at h
  exact ⟨h.1.2, h.2.1.2⟩
/-- The entries are these points. -/
def EntM (es : Array MapEntry) (M : List Pt) : Prop := es.toList.map (fun e => (e.key, e.val)) = M.map fun p => (keyV p.1 p.2.1, Value.int .i64 p.2.2)
/-- Block b is such a map. -/
def MpM (w : World) (b : Nat) (M : List Pt) : Prop := ∃ es clock, w.heap[b]? = some (.map es clock) ∧ Stamped es clock ∧ EntM es M
theorem MpM.lt {w : World} {b : Nat} {M : List Pt} (h : MpM w b M) : b < w.heap.size := by
  obtain ⟨es, cl, h1, _⟩ := h; exact lt_of_block h1
theorem MpM.kept {w w' : World} {b : Nat} {M : List Pt} {row : Option Nat} (h : MpM w b M) (hg : w.grownBy w' row) (hne : some b ≠ row) : MpM w' b M := by
  have hl := h.lt
  obtain ⟨es, cl, h1, h2⟩ := h
  exact ⟨es, cl, (hg.block b hl hne).trans h1, h2⟩
theorem MpM.made (w : World) : MpM (w.alloc (.map #[] 0)) w.heap.size [] := ⟨#[], 0, heap_alloc_new w _, stamped_empty 0, rfl⟩
theorem find_place (a s : Int) (w : World) : ∀ (es : List MapEntry) (M : List Pt) (i : Nat), es.map (fun e => (e.key, e.val)) = M.map (fun p => (keyV p.1 p.2.1, Value.int .i64 p.2.2)) →
    (Key M a s ∧ ∃ j r, (Instr.findAsking 101 (keyV a s) es i).run Try.prog w = .ok (some (j, .int .i64 r)) w) ∨ (¬ Key M a s ∧ (Instr.findAsking 101 (keyV a s) es i).run Try.prog w = .ok none w)
  | [], [], i, _ => .inr ⟨fun ⟨p, h, _⟩ => by simp at h, by simp [Instr.findAsking]⟩
  | [], p :: M, i, h => by simp at h
  | e :: es, [], i, h => by simp at h
  | e :: es, p :: M, i, h => by
    simp only [List.map_cons, List.cons.injEq, Prod.mk.injEq] at h
    obtain ⟨⟨h1, h2⟩, h3⟩ := h
    have he := eq_place a s p.1 p.2.1 w
    by_cases hk : a = p.1 ∧ s = p.2.1
    · left
      refine ⟨⟨p, by simp, hk.1.symm, hk.2.symm⟩, i, p.2.2, ?_⟩
      simp only [Instr.findAsking, Sem.run_bind, h1, keyV]
      rw [he]
      simp [hk, h2]
    · rcases find_place a s w es M (i + 1) h3 with ⟨⟨q, q1, q2, q3⟩, j, r, q4⟩ | ⟨q1, q2⟩
      · left
        refine ⟨⟨q, by simp [q1], q2, q3⟩, j, r, ?_⟩
        simp only [Instr.findAsking, Sem.run_bind, h1]
        rw [show (Op.equal 101 (keyV a s) (keyV p.1 p.2.1)).run Try.prog w = _ from he]
        simp [hk, q4]
      · right
        refine ⟨?_, ?_⟩
        · rintro ⟨q, q3, q4, q5⟩
          rcases List.mem_cons.1 q3 with e1 | e1
          · subst e1; exact hk ⟨q4.symm, q5.symm⟩
          · exact q1 ⟨q, e1, q4, q5⟩
        · simp only [Instr.findAsking, Sem.run_bind, h1]
          rw [show (Op.equal 101 (keyV a s) (keyV p.1 p.2.1)).run Try.prog w = _ from he]
          simp [hk, q2]
theorem under101 : ∃ fs, Try.prog.underlying 101 = some (.struct fs) := ⟨Try.prog.fieldsOf 101, by kernel_rfl⟩
theorem find_key (a s : Int) (w : World) {es : Array MapEntry} {M : List Pt} (h : EntM es M) :
    (Key M a s ∧ ∃ j r, (Instr.findKey 101 (keyV a s) es.toList).run Try.prog w = .ok (some (j, .int .i64 r)) w) ∨ (¬ Key M a s ∧ (Instr.findKey 101 (keyV a s) es.toList).run Try.prog w = .ok none w) := by
  obtain ⟨fs, hfs⟩ := under101
  have hk : (Instr.findKey 101 (keyV a s) es.toList).run Try.prog w = (Instr.findAsking 101 (keyV a s) es.toList 0).run Try.prog w := by
    simp only [Instr.findKey, Sem.run_bind, run_underlying hfs, Result.andThen_ok]
    generalize es.toList = l
    cases l with
    | nil => simp [Instr.findNow, Instr.findAsking]
    | cons e l =>
      have : Instr.findNow (.struct fs) (keyV a s) (e :: l) 0 = none := by
        simp [Instr.findNow, Instr.sameNow, keyV]
      rw [this]
  rw [hk]
  exact find_place a s w es.toList M 0 h
theorem zero3 (w : World) : (zeroValue 3).run Try.prog w = .ok (.int .i64 0) w := by kernel_rfl
theorem mp_look {w : World} {b : Nat} {M : List Pt} (h : MpM w b M) (a s : Int) [Decidable (Key M a s)] : ∃ r : Int, (Instr.lookup 98 (.map (some b)) (.agg #[.int .u32 a, .int .i64 s]) true).run Try.prog w = .ok (.tuple #[.int .i64 r, .bool (decide (Key M a s))]) w := by
  obtain ⟨es, cl, hb, hs, hr⟩ := h
  have hck := chk_place a s w es.isEmpty
  rcases find_key a s w hr with ⟨h1, j, r, h2⟩ | ⟨h1, h2⟩
  · refine ⟨r, ?_⟩
    simp only [keyV] at h2
    simp [Instr.lookup, run_underlying Try.underlying98, Go.MapKept.run_getObj_map hb, hck, h2, Result.andThen, h1]
  · refine ⟨0, ?_⟩
    simp only [keyV] at h2
    simp [Instr.lookup, run_underlying Try.underlying98, Go.MapKept.run_getObj_map hb, hck, h2, Result.andThen, h1, zero3]
theorem gb_block {w : World} {r : Nat} {o : Obj} : w.grownBy { w with heap := w.heap.setIfInBounds r o } (some r) :=
  ⟨rfl, rfl, rfl, by simp, fun i hi hn => by
    have : i ≠ r := fun e => hn (by rw [e])
    simp [Ne.symm this]⟩
theorem mp_set {w : World} {b : Nat} {M : List Pt} (h : MpM w b M) (a s r : Int) (hk : ¬ Key M a s) :
    ∃ w', (Instr.mapUpdate 98 (.map (some b)) (.agg #[.int .u32 a, .int .i64 s]) (.int .i64 r)).run Try.prog w = .ok () w' ∧ MpM w' b (M ++ [(a, s, r)]) ∧ w.grownBy w' (some b) := by
  obtain ⟨es, cl, hb, hs, hr⟩ := h
  have hck := chk_place a s w false
  have hne : ∀ x ∈ es.toList, x.key ≠ keyV a s := fun x hx e => by
    have : (x.key, x.val) ∈ M.map fun p => (keyV p.1 p.2.1, Value.int .i64 p.2.2) := by
      rw [← hr]
      exact List.mem_map.2 ⟨x, hx, rfl⟩
    obtain ⟨p, p1, p2⟩ := List.mem_map.1 this
    simp only [Prod.mk.injEq] at p2
    have := keyV_inj (p2.1.trans e)
    exact hk ⟨p, p1, this.1, this.2⟩
  rcases find_key a s w hr with ⟨h1, _⟩ | ⟨_, h2⟩
  · exact absurd h1 hk
  · simp only [keyV] at h2 hne
    refine ⟨{ w with heap := w.heap.setIfInBounds b (.map (es.push { key := .agg #[.int .u32 a, .int .i64 s], val := .int .i64 r, born := cl }) (cl + 1)) }, by
      simp [Instr.mapUpdate, run_underlying Try.underlying98, Go.MapKept.run_getObj_map hb, hck, h2, Go.MapKept.run_setObj_map _ hb, Result.andThen], ⟨_, _, (heap_set hb).1, stamped_push hs hne, ?_⟩, gb_block⟩
    unfold EntM at hr ⊢
    simp only [Array.toList_push, List.map_append, hr]
    rfl
end Go.Proofs.Ytphhofbdekbggaa
