/-
  Servers in a row, and their clone.
-/
import Derived.Test.YtphhofbdekbggaaRl
namespace Go.Proofs.Ytphhofbdekbggaa
open Go.RowKit
set_option linter.unusedVariables false
set_option linter.unusedSimpArgs false

def flatS (ps : List Sv) : List Value := ps.flatMap encSv
theorem flatS_len (ps : List Sv) : (flatS ps).length = ps.length * 2 := by
  induction ps with
  | nil => rfl
  | cons p ps ih =>
    unfold flatS at ih ⊢
    rw [List.flatMap_cons, List.length_append, ih, List.length_cons]
    simp [encSv]; omega
theorem flatS_one (ps : List Sv) : ∀ u ∈ flatS ps, u.oneCell' = true := by
  intro u hu
  simp only [flatS, List.mem_flatMap] at hu
  obtain ⟨p, _, hp⟩ := hu
  simp [encSv] at hp
  rcases hp with rfl | rfl <;> rfl
/-- The server of a number. -/
def sat (ps : List Sv) (i : Nat) : Sv := ps.getD i (ByteArray.empty, 0)
theorem flatS_get : ∀ (ps : List Sv) (i : Nat), i < ps.length → (flatS ps)[i * 2]? = some (.string (sat ps i).1) ∧ (flatS ps)[i * 2 + 1]? = some (.int .i64 (sat ps i).2)
  | [], i, h => by simp at h
  | p :: ps, 0, _ => by simp [flatS, sat, encSv]
  | p :: ps, i + 1, h => by
    have ih := flatS_get ps i (by simp at h; omega)
    rw [show (i + 1) * 2 = i * 2 + 2 by omega]
    have hs : sat (p :: ps) (i + 1) = sat ps i := by simp [sat]
    rw [hs, ← ih.1, ← ih.2]
    constructor <;> simp [flatS, encSv]
theorem serv_cell {w : World} {B g n c : Nat} {ps : List Sv} (h : w.ownsRow B 26 2 (.slice (some ⟨g, 0, none⟩) n c) n (flatS ps)) (hn : ps.length = n) (i : Nat) (hi : i < n) : w.cell? ⟨g, i * 2, none⟩ = some (.string (sat ps i).1) ∧ w.cell? ⟨g, i * 2 + 1, none⟩ = some (.int .i64 (sat ps i).2) := by
  obtain ⟨e0, e1⟩ := flatS_get ps i (by omega)
  exact ⟨row_cell h _ _ e0, row_cell h _ _ e1⟩
set_option maxRecDepth 100000 in
theorem Try.info26 : (Try.prog.info? 26).map (fun i => (i.zero, i.size, i.bytes)) = some (some (.agg #[.string ByteArray.empty, .int .i64 0]), 2, 24) := by kernel_rfl
section
variable {w : World} {ops : Array Oper} {rest : List Oper} {o : Oper} {a : Act} {Q : Exit → Act → World → Prop}
/-- append([]Server{}, l...). -/
theorem copyS (hgd : o.guard = none) (s x : Operand) (ho : o.op = .call { callee := .builtin .append, args := #[s, x], argTypes := #[22, 22] })
    (B : Nat) (v : Value) (hs : a.eval s = v) (hown : w.ownsRow B 26 2 v 0 []) (C g n c : Nat) (ps : List Sv) (hx : a.eval x = .slice (some ⟨g, 0, none⟩) n c) (hn : ps.length = n) (h0 : 0 < n) (hn2 : n ≤ 1000000) (hP : w.ownsRow C 26 2 (.slice (some ⟨g, 0, none⟩) n c) n (flatS ps)) (hB : B ≤ w.heap.size)
    (h : ∀ g' cap w', w'.ownsRow B 26 2 (.slice (some ⟨g', 0, none⟩) n cap) n (flatS ps) → w.grownBy w' v.ownBlock → wpList Try.prog ops Q rest (a.put o.dst (.slice (some ⟨g', 0, none⟩) n cap)) w') : wpList Try.prog ops Q (o :: rest) a w := by
  obtain ⟨i0, hi, hz0, hz1, hz2⟩ := info_parts Try.info26
  refine wpList_plain hgd fun K hK => ?_
  refine wp_append_lies _ s x 22 ho B 26 i0 _ 2 24 Try.underlying22 hi hz0 hz1 hz2 rfl (by omega) v 0 [] hs hown ⟨g, 0, none⟩ n c (flatS ps) hx (by rw [flatS_len, hn]) (fun j u hu => ?_) (flatS_one ps) h0 (by unfold maxLen; omega) (by omega) hB _ rfl ?_
  · rw [Addr.add_mid, Nat.zero_add]
    exact row_cell hP j u hu
  · intro g' cap w' h1 h2 _ _
    rw [Nat.zero_add] at h1 ⊢
    exact hK _ _ (h g' cap w' h1 h2)
end
set_option maxRecDepth 100000 in
set_option maxHeartbeats 2000000 in
theorem clone_32 {w : World} {C g n c : Nat} {ps : List Sv} (h : w.ownsRow C 26 2 (.slice (some ⟨g, 0, none⟩) n c) n (flatS ps)) (hn : ps.length = n) (h0 : 0 < n) (hn2 : n ≤ 1000000) :
    Calls Try.prog 32 #[.slice (some ⟨g, 0, none⟩) n c] w fun e w' => (∃ g' c', e = .returned (.slice (some ⟨g', 0, none⟩) n c') ∧ w'.ownsRow w.heap.size 26 2 (.slice (some ⟨g', 0, none⟩) n c') n (flatS ps)) ∧ w.grownBy w' none := by
  have hq : ∀ (W : World) (n c : Nat), Sem.run Try.prog (binOp .eql 22 (.slice (some ⟨g, 0, none⟩) n c) (.slice none 0 0)) W = .ok (.bool false) W := fun _ _ _ => by first | rfl | kernel_rfl | simp [binOp, go_sem]
  have ga := gb_alloc (gb_refl w none) (.cells #[] 26)
  have hE0 : (w.alloc (.cells #[] 26)).ownsRow w.heap.size 26 2 (.slice (some ⟨w.heap.size, 0, none⟩) 0 0) 0 [] := ⟨rfl, .inr ⟨w.heap.size, 0, #[], rfl, Nat.le_refl _, heap_alloc_new w _, Nat.le_refl _, by unfold maxLen; omega, rfl, rfl⟩⟩
  have hnew := World.ownsRow.alloc h (.cells #[] 26)
  clear h
  go_enter Try.func32, Try.ntmps32
  go_wp2_with (at_builtin; go_must (refine copyS rfl _ _ rfl w.heap.size _ (by rfl) hE0 C g n c ps (by rfl) hn h0 hn2 hnew (by simp) ?_); intro g1 cap1 w1 h1 h2)
  go_ret
  exact ⟨⟨_, _, rfl, h1⟩, gb_mine ga h2 (by simp [Value.ownBlock])⟩
end Go.Proofs.Ytphhofbdekbggaa
