/-
  Maps from handles to places.
-/
import Derived.Test.YtagcmfaljfaikaaA
namespace Go.Proofs.Ytagcmfaljfaikaa
open Go.RowKit Go.Maps
set_option linter.unusedVariables false

def upz {α : Type} (f : Int → α) (i : Int) (v : α) : Int → α := fun j => if j = i then v else f j
theorem upz_same {α : Type} (f : Int → α) (i : Int) (v : α) : upz f i v i = v := by simp [upz]
theorem upz_other {α : Type} (f : Int → α) {i j : Int} (v : α) (h : j ≠ i) : upz f i v j = f j := by simp [upz, h]

theorem law89 : Keyed Try.prog 89 := int_keyed Try.underlying89
theorem zero3 (w : World) : (zeroValue 3).run Try.prog w = .ok (.int .i64 0) w := by kernel_rfl

def isH (h : Int) : Prop := 0 ≤ h ∧ h < 18446744073709551616
theorem wf_u64 {h : Int} (hh : isH h) : (Lit.int .u64 h).wf = true := by
  unfold isH at hh
  simp [Lit.wf, IntKind.min, IntKind.max, IntKind.bits, IntKind.signed]
  omega
theorem key89 {h : Int} (hh : isH h) : keyOf Try.prog 89 (.int .u64 h) = some (.int .u64 h) := keyOf_int_mk Try.underlying89 (wf_u64 hh)

/-- Block b is a map of c entries: m h is the place at the handle h. -/
def Mp (w : World) (b c : Nat) (m : Int → Option Nat) : Prop :=
  ∃ D : DataW Unit, w.ownsMap Try.prog 89 (plainElem Try.prog 3) b c D ∧ Maps.size D = c ∧ (∀ h, Maps.has D (.int .u64 h) = (m h).isSome) ∧ (∀ h i, m h = some i → D.atKey (.int .u64 h) (.lit (.int .i64 0)) = .lit (.int .i64 (i : Nat)))

theorem Mp.lt {w : World} {b c : Nat} {m : Int → Option Nat} (h : Mp w b c m) : b < w.heap.size := by
  obtain ⟨D, h1, _⟩ := h; exact h1.lt
theorem Mp.isMap {w : World} {b c : Nat} {m : Int → Option Nat} (h : Mp w b c m) : ∃ es clock, w.heap[b]? = some (.map es clock) := by
  obtain ⟨D, ⟨es, cl, h1, _⟩, _⟩ := h; exact ⟨es, cl, h1⟩
theorem Mp.kept {w w' : World} {b c : Nat} {m : Int → Option Nat} {row : Option Nat} (h : Mp w b c m) (hg : w.grownBy w' row) (hne : some b ≠ row) : Mp w' b c m := by
  obtain ⟨D, h1, h2⟩ := h; exact ⟨D, h1.kept hg hne, h2⟩
theorem Mp.same {w w' : World} {b c : Nat} {m : Int → Option Nat} (h : Mp w b c m) (hg : w'.heap[b]? = w.heap[b]?) : Mp w' b c m := by
  obtain ⟨D, ⟨es, cl, h1, h3⟩, h2⟩ := h; exact ⟨D, ⟨es, cl, hg.trans h1, h3⟩, h2⟩
theorem Mp.made (w : World) : Mp (w.alloc (.map #[] 0)) w.heap.size 0 (fun _ => none) :=
  ⟨.map [], World.ownsMap_made w _ _ _, rfl, fun h => rfl, fun h i e => by simp at e⟩

section
variable {w : World} {ops : Array Oper} {rest : List Oper} {o : Oper} {a : Act} {Q : Exit → Act → World → Prop} {b c : Nat} {m : Int → Option Nat}

theorem mp_look_ok (hM : Mp w b c m) (hg : o.guard = none) (mm x : Operand) (hop : o.op = Op.lookup 107 mm x true) (hm : a.eval mm = .map (some b)) {h : Int} (hh : isH h) (hx : a.eval x = .int .u64 h)
    (hK : wpList Try.prog ops Q rest (a.put o.dst (.tuple #[.int .i64 (((m h).getD 0 : Nat) : Int), .bool (m h).isSome])) w) : wpList Try.prog ops Q (o :: rest) a w := by
  obtain ⟨D, h1, h2, h3, h4⟩ := hM
  refine wpList_lookup_own_ok_int w hg mm x 107 hop 89 3 .i64 law89 Try.underlying107 Try.underlying3 (zero3 w) b c D hm h1 _ _ hx (key89 hh) ?_
  intro z hat _
  rw [h3]
  cases hmh : m h with
  | none =>
    have : Maps.has D (.int .u64 h) = false := by rw [h3, hmh]; rfl
    rw [atKey_of_not_has this] at hat
    injection hat with hat; injection hat with _ hat
    rw [hmh] at hK
    rw [← hat]; exact hK
  | some i =>
    rw [h4 h i hmh] at hat
    injection hat with hat; injection hat with _ hat
    rw [hmh] at hK
    rw [← hat]; exact hK
theorem mp_look (hM : Mp w b c m) (hg : o.guard = none) (mm x : Operand) (hop : o.op = Op.lookup 107 mm x false) (hm : a.eval mm = .map (some b)) {h : Int} (hh : isH h) (hx : a.eval x = .int .u64 h)
    (hK : wpList Try.prog ops Q rest (a.put o.dst (.int .i64 (((m h).getD 0 : Nat) : Int))) w) : wpList Try.prog ops Q (o :: rest) a w := by
  obtain ⟨D, h1, h2, h3, h4⟩ := hM
  refine wpList_lookup_own_int w hg mm x 107 hop 89 3 .i64 law89 Try.underlying107 Try.underlying3 (zero3 w) b c D hm h1 _ _ hx (key89 hh) ?_
  intro z hat _
  cases hmh : m h with
  | none =>
    have : Maps.has D (.int .u64 h) = false := by rw [h3, hmh]; rfl
    rw [atKey_of_not_has this] at hat
    injection hat with hat; injection hat with _ hat
    rw [hmh] at hK
    rw [← hat]; exact hK
  | some i =>
    rw [h4 h i hmh] at hat
    injection hat with hat; injection hat with _ hat
    rw [hmh] at hK
    rw [← hat]; exact hK
theorem tight {w : World} {b n : Nat} {D : DataW Unit} (h : w.ownsMap Try.prog 89 (plainElem Try.prog 3) b n D) : w.ownsMap Try.prog 89 (plainElem Try.prog 3) b (Maps.size D) D := by
  obtain ⟨es, cl, h1, h2, h3, rfl⟩ := h
  refine ⟨es, cl, h1, h2, ?_, rfl⟩
  rw [size_eq, length_read]
  exact Nat.le_refl _
theorem key_ne {h k : Int} (hne : h ≠ k) : Lit.int .u64 h ≠ Lit.int .u64 k := fun e => by injection e with _ e; exact hne e
theorem Mp.store (hM : Mp w b c m) (hc : c < 1000000) {h : Int} (hh : isH h) (i : Nat) (hi : i < 1000000) :
    ∃ w', (Instr.mapUpdate 107 (.map (some b)) (.int .u64 h) (.int .i64 (i : Nat))).run Try.prog w = .ok () w' ∧ Mp w' b (if (m h).isSome then c else c + 1) (upz m h (some i)) ∧ w.grownBy w' (some b) := by
  obtain ⟨D, h1, h2, h3, h4⟩ := hM
  obtain ⟨w1, hrun, hown1, hgrow⟩ := h1.update law89 Try.underlying107 (by unfold maxLen; omega) (key89 hh) (plainElem_int (H := Unit) Try.underlying3 (WalkArith.wf_i64 (n := ((i : Nat) : Int)) (by omega)))
  have hkl : WideAt.IsKeyLit (.int .u64 h) := by simp [WideAt.IsKeyLit]
  refine ⟨w1, hrun, ⟨D.put (.int .u64 h) (.lit (.int .i64 (i : Nat))), ?_, ?_, fun k => ?_, fun k j hk => ?_⟩, hgrow⟩
  · have := tight hown1
    rw [size_put (h1.tidy law89), h3, h2] at this
    exact this
  · rw [size_put (h1.tidy law89), h3, h2]
  · by_cases hk : k = h
    · subst hk; rw [has_put_same h1.isMap hkl, upz_same]; rfl
    · rw [has_put_other (key_ne hk), upz_other _ _ hk, h3]
  · by_cases hkh : k = h
    · subst hkh
      rw [upz_same] at hk
      rw [atKey_put_same h1.isMap hkl]
      rw [Option.some.inj hk]
    · rw [upz_other _ _ hkh] at hk
      rw [atKey_put_other (key_ne hkh)]
      exact h4 k j hk
theorem mp_delete (hM : Mp w b c m) (hg : o.guard = none) (mm x : Operand) (hop : o.op = Op.call { callee := Callee.builtin Builtin.delete, args := #[mm, x], argTypes := #[107, 89] }) (hm : a.eval mm = .map (some b)) {h : Int} (hh : isH h) (hx : a.eval x = .int .u64 h) (hs : (m h).isSome = true)
    (hK : ∀ w', Mp w' b (c - 1) (upz m h none) → w.grownBy w' (some b) → wpList Try.prog ops Q rest (a.put o.dst (.tuple #[])) w') : wpList Try.prog ops Q (o :: rest) a w := by
  obtain ⟨D, h1, h2, h3, h4⟩ := hM
  refine wpList_delete_own w hg mm x 107 89 hop 3 law89 Try.underlying107 _ b c D hm h1 _ _ hx (key89 hh) ?_
  intro w1 hown1 hturn
  have hsz := size_del (k := .int .u64 h) (h1.tidy law89)
  rw [h3, hs, if_pos rfl, h2] at hsz
  refine hK w1 ⟨D.del (.int .u64 h), ?_, ?_, fun k => ?_, fun k j hk => ?_⟩ hturn.grown
  · have := tight hown1
    rw [show Maps.size (D.del (.int .u64 h)) = c - 1 by omega] at this
    exact this
  · omega
  · by_cases hk : k = h
    · subst hk; rw [has_del_same, upz_same]; rfl
    · rw [has_del_other (key_ne hk), upz_other _ _ hk, h3]
  · by_cases hkh : k = h
    · subst hkh
      rw [upz_same] at hk
      simp at hk
    · rw [upz_other _ _ hkh] at hk
      rw [atKey_del_other (key_ne hkh)]
      exact h4 k j hk
end

end Go.Proofs.Ytagcmfaljfaikaa
