import Derived.Lib.AppendStr
import Derived.Test.YtbbocbdoiealoaaGreatDoorRPbi
import Derived.ArgAppend
import Derived.Deep.RegionLaw
import Derived.Test.YtbbocbdoiealoaaGreatDoorRPaa
import Derived.Test.YtbbocbdoiealoaaGreatDoorRPaw
set_option linter.unusedVariables false
set_option linter.unusedSimpArgs false
namespace Go.Proofs.YtbbocbdoiealoaaGreatDoor
open Go.RowKit Go.Shelf
theorem strCells_b8 (l : Bs) : Lib.strCells ⟨l.toArray⟩ = l.map b8 := by
  simp [Lib.strCells]
section
variable {w : World} {ops : Array Oper} {rest : List Oper} {o : Oper} {a : Act} {Q : Exit → Act → World → Prop}
theorem moreS (hgd : o.guard = none) (s x : Operand) (ho : o.op = .call { callee := .builtin .append, args := #[s, x], argTypes := #[38, 9] })
    (B : Nat) (g n cap : Nat) (k : Bs) (hs : a.eval s = .slice (some ⟨g, 0, none⟩) n cap) (hown : OwC w B (.slice (some ⟨g, 0, none⟩) n cap) k) (l : Bs) (hx : a.eval x = .string ⟨l.toArray⟩) (hn : k.length + l.length ≤ 140737488355328) (hB : B ≤ w.heap.size)
    (h : ∀ v' w', OwC w' B v' (k ++ l) → w.grownBy w' (some g) → wpList Tryz.prog ops Q rest (a.put o.dst v') w') : wpList Tryz.prog ops Q (o :: rest) a w := by
  obtain ⟨i0, hi, hz0, hz1, hz2⟩ := info_parts Tryz.info5
  refine wpList_plain hgd fun K hK => ?_
  have hsize : (ByteArray.mk l.toArray).size = l.length := ba_size l
  rcases id hown with ⟨h0, _⟩ | ⟨g', cap', cur, fz, e, hbg, hg, hfz, hnc, hcm, hcs, htake⟩
  · cases h0
  · injection e with e1 e2 e3
    injection e1 with e1
    injection e1 with e1 _ _
    subst e1 e2 e3
    have key : ∀ v' w', (Builtin.append_ #[38, 9] o.type #[.slice (some ⟨g, 0, none⟩) k.length cap, .string ⟨l.toArray⟩]).run Tryz.prog w = .ok v' w' → OwC w' B v' (k ++ l) → w.grownBy w' (some g) → o.wp Tryz.prog a w K Q := by
      intro v' w' hr h2 h3
      unfold Oper.wp execOp
      simp only [ho, resolve, invoke, builtin, Sem.run_bind, Sem.run_pure, Result.andThen_ok, List.map_toArray, List.map_cons, List.map_nil, hs, hx, hr]
      exact hK _ _ (h v' w' h2 h3)
    by_cases hroom : k.length + l.length ≤ cap
    · have hf := Lib.run_firstCells_string (P := Tryz.prog) w 1 ⟨l.toArray⟩
      have hone : ∀ u ∈ l.map b8, u.oneCell' = true := by
        intro u hu
        obtain ⟨y, _, rfl⟩ := List.mem_map.1 hu
        rfl
      have hst := storeC Tryz.prog g k.length 5 fz (l.map b8) 0 cur w hg hfz (by simp; omega) hone
      simp only [Nat.add_zero] at hst
      rw [strCells_b8, hsize] at hf
      refine key (.slice (some ⟨g, 0, none⟩) (k.length + l.length) cap) (w.setRow g (cur.toList.take k.length ++ l.map b8 ++ cur.toList.drop (k.length + (l.map b8).length)).toArray) ?_ ?_ ?_
      · simp [Builtin.append_, run_underlying Tryz.underlying38, run_underlying Tryz.underlying9, sizeOf, typeInfo, hi, hz1, Builtin.lenOf, hsize, hroom, hf, Addr.add_lit, hst]
      · refine .inr ⟨g, cap, _, fz, by simp, hbg, setRow_heap w g cur _ 5 _ hg, ?_, by simp; omega, hcm, ?_, ?_⟩
        · rcases hfz with hfz | hfz
          · exact .inl hfz
          · right
            simp only [List.size_toArray, List.length_append, List.length_take, List.length_drop, Array.length_toList, List.length_map]
            omega
        · simp only [List.size_toArray, List.length_append, List.length_take, List.length_drop, Array.length_toList, List.length_map]
          omega
        · rw [htake, ← List.map_append, show (k ++ l).length = ((k ++ l).map b8).length by simp]
          exact List.take_left
      · exact ⟨rfl, rfl, rfl, by simp, fun j _ hk => setRow_other w g j _ (fun e => hk (by simp [e]))⟩
    · have holds : ∀ j u, (k.map b8)[j]? = some u → w.cell? ((⟨g, 0, none⟩ : Addr).add j) = some u := by
        intro j u hu
        rw [List.getElem?_map, Option.map_eq_some_iff] at hu
        obtain ⟨y, hj, rfl⟩ := hu
        rw [Addr.add_mid, Nat.zero_add]
        exact hown.cell j y hj
      have hr := Lib.run_append_grow_string (P := Tryz.prog) w 38 9 o.type 5 i0 (.int .u8 0) Tryz.underlying38 Tryz.underlying9 hi hz0 ⟨g, 0, none⟩ k.length cap (k.map b8) (by simp [hz1]) holds ⟨l.toArray⟩ (by rw [hsize]; omega) (by rw [hsize]; omega) (by rw [hsize]; exact growslice_fits (by omega) (by rw [hz2]; omega))
      rw [strCells_b8, hsize] at hr
      have hge := grownCap_ge w (k.length + l.length) cap 5
      have hcm2 : grownCap w (k.length + l.length) cap 5 ≤ maxLen := grownCap_le_maxLen w (k.length + l.length) cap 5 (by unfold maxLen; omega)
      refine key _ _ hr ?_ ?_
      · refine .inr ⟨w.heap.size, _, _, (0, 0), by simp, hB, heap_alloc_new w.drew _, .inl rfl, by simp; omega, hcm2, ?_, ?_⟩
        · simp only [Array.size_append, List.size_toArray, size_zeroCells, List.length_map]
          show _ + (_ - _) * 1 = _
          omega
        · simp only [Array.toList_append, List.append_assoc]
          rw [← List.append_assoc, ← List.map_append, show (k ++ l).length = ((k ++ l).map b8).length by simp]
          exact List.take_left
      · exact ⟨rfl, rfl, rfl, by simp, fun j hk _ => by first | exact _root_.Go.heap_alloc_old w.drew _ hk | exact _root_.Go.heap_alloc_old w.drew _ j hk⟩
end
end Go.Proofs.YtbbocbdoiealoaaGreatDoor
namespace Go.Proofs.YtbbocbdoiealoaaGreatDoor
open Go.RowKit Go.Maps
theorem takeL_len (r : Rw) : ∀ (ws : List Bs) (i : Nat) (c d : Cmd), takeL r i c ws = .inl d → d.keys.length ≤ c.keys.length + ws.length ∧ d.mt.length ≤ c.mt.length + ws.length
  | [], i, c, d, h => by
    simp only [takeL] at h
    injection h with h
    subst h
    exact ⟨by simp, by simp⟩
  | x :: ws, i, c, d, h => by
    simp only [takeL] at h
    cases h1 : take1 c (lett r i) x with
    | inr e => rw [h1] at h; cases h
    | inl d1 =>
      rw [h1] at h
      have h2 := takeL_len r ws (i + 1) d1 d h
      have h3 := take1_len h1
      simp only [List.length_cons]
      omega
theorem readS_len {r : Rw} {ws : List Bs} {c : Cmd} (h : readS r ws = .inl c) : c.keys.length ≤ ws.length ∧ c.mt.length ≤ ws.length := by
  simp only [readS] at h
  have hv : (if qt r ws then ws.dropLast else ws).length ≤ ws.length := by split <;> simp
  generalize (if qt r ws then ws.dropLast else ws) = vs at h hv
  split at h
  · cases h1 : takeL r 0 (cmd0 r.verb (qt r ws)) vs with
    | inr e => rw [h1] at h; simp only [fin] at h; cases h
    | inl d =>
      rw [h1] at h
      simp only [fin] at h
      have h2 := takeL_len r vs 0 _ d h1
      split at h
      · injection h with h
        subst h
        simp only [cmd0, List.length_nil] at h2
        omega
      · cases h
  · cases h
theorem lineS_len {l : Bs} {c : Cmd} {n : Int} (h : lineS l = .inl (c, n)) : c.keys.length ≤ 2049 ∧ c.mt.length ≤ 2049 ∧ l.length ≤ 2048 := by
  unfold lineS at h
  split at h
  · cases h
  · rename_i hl
    have h1 := spl_lenY l []
    cases hs : spl [] l with
    | nil => rw [hs] at h; cases h
    | cons x ws =>
      rw [hs] at h h1
      simp only [List.length_cons] at h1
      simp only at h
      cases hr : rowS x with
      | none => rw [hr] at h; cases h
      | some r =>
        rw [hr] at h
        simp only at h
        cases hd : readS r ws with
        | inr e => rw [hd] at h; cases h
        | inl d =>
          rw [hd] at h
          simp only at h
          injection h with h
          injection h with h _
          subst h
          have h2 := readS_len hd
          omega
end Go.Proofs.YtbbocbdoiealoaaGreatDoor
