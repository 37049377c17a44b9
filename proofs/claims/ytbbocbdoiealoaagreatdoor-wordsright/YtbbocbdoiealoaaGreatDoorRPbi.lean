import Derived.Lib.ConvBytes
import Derived.Test.YtbbocbdoiealoaaGreatDoorRPar
import Derived.Test.YtbbocbdoiealoaaGreatDoorRPbh
import Derived.Test.YtbbocbdoiealoaaGreatDoorRPba
import Derived.Deep.CutRange
import Derived.Test.YtbbocbdoiealoaaGreatDoorRPbb
import Derived.Test.YtbbocbdoiealoaaGreatDoorRPaa
set_option linter.unusedVariables false
set_option linter.unusedSimpArgs false
namespace Go.Proofs.YtbbocbdoiealoaaGreatDoor
open Go.RowKit Go.Shelf
def OwC (w : World) (B : Nat) (v : Value) (l : Bs) : Prop :=
  (v = .slice none 0 0 ∧ l = []) ∨ ∃ g cap cur fz, v = .slice (some ⟨g, 0, none⟩) l.length cap ∧ B ≤ g ∧ w.heap[g]? = some (.cells cur 5 fz) ∧ (fz.2 = 0 ∨ cur.size ≤ fz.1) ∧ l.length ≤ cap ∧ cap ≤ maxLen ∧ cur.size = cap ∧ cur.toList.take l.length = l.map b8
theorem OwC.cell {w : World} {B g cap n : Nat} {l : Bs} (h : OwC w B (.slice (some ⟨g, 0, none⟩) n cap) l) : ∀ i x, l[i]? = some x → w.cell? ⟨g, i, none⟩ = some (b8 x) := by
  intro i x hx
  rcases h with ⟨h, _⟩ | ⟨g', cap', cur, fz, e, _, hg, _, _, _, _, ht⟩
  · cases h
  · injection e with e _ _
    injection e with e
    injection e with e _ _
    subst e
    obtain ⟨lo, hi⟩ := fz
    rw [cell_of_row w g i cur 5 _ hg]
    have hi2 := (List.getElem?_eq_some_iff.1 hx).1
    have h1 : (cur.toList.take l.length)[i]? = some (b8 x) := by rw [ht, List.getElem?_map, hx]; rfl
    rw [List.getElem?_take, if_pos hi2] at h1
    simpa using h1
theorem OwC.ck {w : World} {B : Nat} {v : Value} {l : Bs} {X : Nat → Prop} (h : OwC w B v l) (hX : ∀ k, v.ownBlock = some k → ¬ X k) : Ck w X v l := by
  rcases h with ⟨h, h0⟩ | ⟨g, cap, cur, fz, rfl, hb, hg, hz, h1, h2, h3, ht⟩
  · exact .inl ⟨h0, h⟩
  · have hc : OwC w B (.slice (some ⟨g, 0, none⟩) l.length cap) l := .inr ⟨g, cap, cur, fz, rfl, hb, hg, hz, h1, h2, h3, ht⟩
    exact .inr ⟨g, 0, cap, rfl, h1, by unfold maxLen at h2; omega, (Array.getElem?_eq_some_iff.1 hg).1, hX g rfl, fun i x hx => by rw [Nat.zero_add]; exact hc.cell i x hx⟩
theorem OwC.low {w : World} {B : Nat} {v : Value} {l : Bs} (h : OwC w B v l) : ∀ k, v.ownBlock = some k → B ≤ k := by
  rcases h with ⟨rfl, _⟩ | ⟨g, cap, cur, fz, rfl, hb, _⟩
  · intro k h; cases h
  · intro k h; have e : g = k := by simpa [Value.ownBlock] using h
    omega
theorem OwC.wide {w : World} {B B' : Nat} {v : Value} {l : Bs} (h : OwC w B v l) (hB : B' ≤ B) : OwC w B' v l := by
  rcases h with h | ⟨g, cap, cur, fz, e, hb, r⟩
  · exact .inl h
  · exact .inr ⟨g, cap, cur, fz, e, Nat.le_trans hB hb, r⟩
theorem conv_own (w : World) (l : Bs) (hl : l.length ≤ 1099511627776) : ∃ W c, (convert 9 38 (sv l)).run Tryz.prog w = .ok (.slice (some ⟨w.heap.size, 0, none⟩) l.length c) W ∧ w.grownBy W none ∧ OwC W w.heap.size (.slice (some ⟨w.heap.size, 0, none⟩) l.length c) l ∧ W.heap.size = w.heap.size + 1 := by
  have hr := Lib.run_convert_string_bytes (P := Tryz.prog) w 9 38 5 ⟨l.toArray⟩ Tryz.underlying9 Tryz.underlying38 Tryz.underlying5
  rw [ba_size] at hr
  have hge := grownCap_ge w l.length 0 5
  have hcm : grownCap w l.length 0 5 ≤ maxLen := grownCap_le_maxLen w l.length 0 5 (by unfold maxLen; omega)
  have hcs : (Lib.bytesCells w 5 ⟨l.toArray⟩).size = grownCap w l.length 0 5 := by
    simp only [Lib.bytesCells, ba_size, Array.size_append, Array.size_map, Array.size_replicate, List.size_toArray]
    omega
  refine ⟨_, _, hr, gb_below (Lib.bytesWorld_below _ _ _), .inr ⟨w.heap.size, _, _, _, rfl, Nat.le_refl _, Lib.bytesWorld_at_new w 5 _, .inr (Nat.le_refl _), hge, hcm, hcs, ?_⟩, Lib.bytesWorld_size _ _ _⟩
  simp only [Lib.bytesCells, Array.toList_append, Array.toList_map]
  rw [List.take_append_of_le_length (by simp)]
  rw [List.take_of_length_le (by simp)]
theorem storeC (P : Program) (g o : Nat) (t : TypeId) (fz : Nat × Nat) : ∀ (vs : List Value) (i : Nat) (cur : Array Value) (w : World), w.heap[g]? = some (.cells cur t fz) → (fz.2 = 0 ∨ cur.size ≤ fz.1) → o + i + vs.length ≤ cur.size → (∀ v ∈ vs, v.oneCell' = true) →
    (storeCells ⟨g, o, none⟩ vs i).run P w = .ok () (w.setRow g (cur.toList.take (o + i) ++ vs ++ cur.toList.drop (o + i + vs.length)).toArray)
  | [], i, cur, w, hg, _, _, _ => by
    simp only [storeCells, List.append_nil, List.length_nil, Nat.add_zero, List.take_append_drop, Array.toArray_toList]
    rw [setRow_self w g cur t fz hg]
    rfl
  | v :: rest, i, cur, w, hg, hfz, hl, h1 => by
    have hi : o + i < cur.size := by simp at hl; omega
    have hadd : (⟨g, o, none⟩ : Addr).add i = ⟨g, o + i, none⟩ := by unfold Addr.add; split <;> simp_all
    have hcell : w.cell? ⟨g, o + i, none⟩ = some cur[o + i] := by simp [World.cell?, hg, hi]
    have hfro : w.frozen? ⟨g, o + i, none⟩ = false := by
      obtain ⟨lo, hi'⟩ := fz
      simp only [World.frozen?, hg, Bool.and_eq_false_iff, decide_eq_false_iff_not]
      simp only at hfz
      omega
    have hst : (store ((⟨g, o, none⟩ : Addr).add i) v).run P w = .ok () (w.setRow g (cur.setIfInBounds (o + i) v)) := by
      rw [hadd, run_store P w _ v _ (h1 v (by simp)), hcell]
      simp [hfro, setCell_eq_setRow w g (o + i) cur t fz v hg]
    have ih := storeC P g o t fz rest (i + 1) (cur.setIfInBounds (o + i) v) (w.setRow g (cur.setIfInBounds (o + i) v)) (setRow_heap w g cur _ t _ hg) (by simpa using hfz) (by simp at hl ⊢; omega) (fun x hx => h1 x (by simp [hx]))
    simp only [storeCells, Sem.run_bind, hst, Result.andThen_ok, ih, setRow_setRow]
    congr 3
    have e := list_seg_step cur.toList (o + i) v rest (by simp at hl ⊢; omega)
    simpa [Array.toList_setIfInBounds, Nat.add_assoc] using e
section
variable {w : World} {ops : Array Oper} {rest : List Oper} {o : Oper} {a : Act} {Q : Exit → Act → World → Prop}
theorem moreM (hgd : o.guard = none) (s x : Operand) (ho : o.op = .call { callee := .builtin .append, args := #[s, x], argTypes := #[38, 38] })
    (B : Nat) (v : Value) (k : Bs) (hs : a.eval s = v) (hown : OwC w B v k) (X : Nat → Prop) (xv : Value) (l : Bs) (hx : a.eval x = xv) (hc : Ck w X xv l) (hn : k.length + l.length ≤ 140737488355328) (hB : B ≤ w.heap.size)
    (h : ∀ v' w', OwC w' B v' (k ++ l) → w.grownBy w' v.ownBlock → wpList Tryz.prog ops Q rest (a.put o.dst v') w') : wpList Tryz.prog ops Q (o :: rest) a w := by
  obtain ⟨i0, hi, hz0, hz1, hz2⟩ := info_parts Tryz.info5
  rcases hown with ⟨rfl, rfl⟩ | ⟨g, cap, cur, fz, rfl, hbg, hg, hfz, hnc, hcm, hcs, htake⟩
  · refine moreC hgd s x ho B _ 0 [] hs (World.ownsRow_nil _ _ _ _) X xv l hx hc (by simpa using hn) hB ?_
    intro v' w' h1 h2
    refine h v' w' ?_ h2
    rcases h1.2 with ⟨e, e0⟩ | ⟨g, cap, cur, e, hb, hg, c1, c2, c3, c4⟩
    · exact .inl ⟨e, by simpa using List.eq_nil_of_length_eq_zero (by omega)⟩
    · exact .inr ⟨g, cap, cur, _, by rw [e]; simp, hb, hg, .inl rfl, by simp; omega, c2, by omega, by simpa using c4⟩
  · have hown : OwC w B (.slice (some ⟨g, 0, none⟩) k.length cap) k := .inr ⟨g, cap, cur, fz, rfl, hbg, hg, hfz, hnc, hcm, hcs, htake⟩
    refine wpList_plain hgd fun K hK => ?_
    have key : ∀ v' w', (Builtin.append_ #[38, 38] o.type #[.slice (some ⟨g, 0, none⟩) k.length cap, xv]).run Tryz.prog w = .ok v' w' → OwC w' B v' (k ++ l) → w.grownBy w' (some g) → o.wp Tryz.prog a w K Q := by
      intro v' w' hr h2 h3
      unfold Oper.wp execOp
      simp only [ho, resolve, invoke, builtin, Sem.run_bind, Sem.run_pure, Result.andThen_ok, List.map_toArray, List.map_cons, List.map_nil, hs, hx, hr]
      exact hK _ _ (h v' w' h2 h3)
    rcases hc with ⟨rfl, rfl⟩ | ⟨g0, o0, c0, rfl, h1, -, -, -, h2⟩
    · refine key (.slice (some ⟨g, 0, none⟩) k.length cap) w ?_ (by simpa using hown) (gb_refl _ _)
      simp [Builtin.append_, run_underlying Tryz.underlying38, sizeOf, typeInfo, hi, hz1, Builtin.lenOf, Builtin.firstCells, loadCells, loadCellsFrom, hnc, storeCells]
    · have hnews : ∀ j u, (l.map b8)[j]? = some u → w.cell? ((⟨g0, o0, none⟩ : Addr).add j) = some u := by
        intro j u hu
        rw [List.getElem?_map, Option.map_eq_some_iff] at hu
        obtain ⟨y, hj, rfl⟩ := hu
        rw [Addr.add_mid]
        exact h2 j y hj
      have hone : ∀ u ∈ l.map b8, u.oneCell' = true := by
        intro u hu
        obtain ⟨y, _, rfl⟩ := List.mem_map.1 hu
        rfl
      by_cases hroom : k.length + l.length ≤ cap
      · have hf := run_firstCells_some (P := Tryz.prog) w 1 l.length ⟨g0, o0, none⟩ l.length c0 (l.map b8) (by simp) hnews
        have hst := storeC Tryz.prog g k.length 5 fz (l.map b8) 0 cur w hg hfz (by simp; omega) hone
        simp only [Nat.add_zero] at hst
        refine key (.slice (some ⟨g, 0, none⟩) (k.length + l.length) cap) (w.setRow g (cur.toList.take k.length ++ l.map b8 ++ cur.toList.drop (k.length + (l.map b8).length)).toArray) ?_ ?_ ?_
        · simp [Builtin.append_, run_underlying Tryz.underlying38, sizeOf, typeInfo, hi, hz1, Builtin.lenOf, hroom, hf, Addr.add_lit, hst]
        · refine .inr ⟨g, cap, _, fz, by simp, hbg, setRow_heap w g cur _ 5 _ hg, ?_, by simp; omega, hcm, ?_, ?_⟩
          · rcases hfz with hfz | hfz
            · exact .inl hfz
            · right
              simp only [List.size_toArray, List.length_append, List.length_take, List.length_drop, Array.length_toList, List.length_map]
              omega
          · simp only [List.size_toArray, List.length_append, List.length_take, List.length_drop, Array.length_toList, List.length_map]
            omega
          · rw [htake, ← List.map_append, show (k ++ l).length = ((k ++ l).map b8).length by simp]
            exact List.take_left
        · exact ⟨rfl, rfl, rfl, by simp, fun j _ hk => setRow_other w g j _ (fun e => hk (by simp [e]))⟩
      · have holds : ∀ j u, (k.map b8)[j]? = some u → w.cell? ((⟨g, 0, none⟩ : Addr).add j) = some u := by
          intro j u hu
          rw [List.getElem?_map, Option.map_eq_some_iff] at hu
          obtain ⟨y, hj, rfl⟩ := hu
          rw [Addr.add_mid, Nat.zero_add]
          exact hown.cell j y hj
        have hr := run_append_grow (P := Tryz.prog) w 38 o.type 5 i0 (.int .u8 0) Tryz.underlying38 hi hz0 ⟨g, 0, none⟩ k.length cap (k.map b8) (by simp [hz1]) holds ⟨g0, o0, none⟩ l.length c0 (l.map b8) (by simp [hz1]) hnews (by omega) (by omega) (growslice_fits (by omega) (by rw [hz2]; omega))
        have hge := grownCap_ge w (k.length + l.length) cap 5
        have hcm2 : grownCap w (k.length + l.length) cap 5 ≤ maxLen := grownCap_le_maxLen w (k.length + l.length) cap 5 (by unfold maxLen; omega)
        refine key _ _ hr ?_ ?_
        · refine .inr ⟨w.heap.size, _, _, (0, 0), by simp, hB, heap_alloc_new w.drew _, .inl rfl, by simp; omega, hcm2, ?_, ?_⟩
          · simp only [Array.size_append, List.size_toArray, size_zeroCells, List.length_map]
            show _ + (_ - _) * 1 = _
            omega
          · simp only [Array.toList_append, List.append_assoc]
            rw [← List.append_assoc, ← List.map_append, show (k ++ l).length = ((k ++ l).map b8).length by simp]
            exact List.take_left
        · exact ⟨rfl, rfl, rfl, by simp, fun j hk _ => _root_.Go.heap_alloc_old w.drew _ hk⟩
theorem moreE0 (hgd : o.guard = none) (s x : Operand) (ho : o.op = .call { callee := .builtin .append, args := #[s, x], argTypes := #[38, 38] })
    (g k cap : Nat) (hs : a.eval s = .slice (some ⟨g, 0, none⟩) k cap) (hkc : k ≤ cap) (xa : Option Addr) (xc : Nat) (hx : a.eval x = .slice xa 0 xc)
    (h : wpList Tryz.prog ops Q rest (a.put o.dst (.slice (some ⟨g, 0, none⟩) k cap)) w) : wpList Tryz.prog ops Q (o :: rest) a w := by
  obtain ⟨i0, hi, hz0, hz1, hz2⟩ := info_parts Tryz.info5
  refine wpList_plain hgd fun K hK => ?_
  have hr : (Builtin.append_ #[38, 38] o.type #[.slice (some ⟨g, 0, none⟩) k cap, .slice xa 0 xc]).run Tryz.prog w = .ok (.slice (some ⟨g, 0, none⟩) k cap) w := by
    cases xa with
    | none => simp [Builtin.append_, run_underlying Tryz.underlying38, sizeOf, typeInfo, hi, hz1, Builtin.lenOf, Builtin.firstCells, loadCells, loadCellsFrom, hkc, storeCells]
    | some ad =>
      have hf := run_firstCells_some (P := Tryz.prog) w 1 0 ad 0 xc [] (by simp) (fun j u hu => by simp at hu)
      simp [Builtin.append_, run_underlying Tryz.underlying38, sizeOf, typeInfo, hi, hz1, Builtin.lenOf, hf, hkc, storeCells]
  unfold Oper.wp execOp
  simp only [ho, resolve, invoke, builtin, Sem.run_bind, Sem.run_pure, Result.andThen_ok, List.map_toArray, List.map_cons, List.map_nil, hs, hx, hr]
  exact hK _ _ h
end
end Go.Proofs.YtbbocbdoiealoaaGreatDoor
namespace Go.Proofs.YtbbocbdoiealoaaGreatDoor
theorem bls_bound : ∀ (ws : List Bs) (m : Nat), (∀ x ∈ ws, x.length ≤ m) → (bls ws).length ≤ ws.length * (m + 1)
  | [], m, _ => by simp [bls]
  | x :: ws, m, h => by
    rw [bls_cons]
    have h1 := h x (by simp)
    have h2 := bls_bound ws m (fun y hy => h y (by simp [hy]))
    simp only [List.length_cons, List.length_append, Nat.add_mul]
    omega
theorem flS_few (v : Int) : ∀ (fs : List Fl) (seen : Bs), flS v seen fs = [] → fs.length ≤ ((bare v ++ full v).filter fun x => !seen.contains x).length
  | [], seen, _ => by simp
  | f :: t, seen, h => by
    rw [flS] at h
    split at h
    · rename_i h1
      have ih := flS_few v t (f.letter :: seen) h
      have hin : f.letter ∈ ((bare v ++ full v).filter fun x => !seen.contains x) := by
        unfold fl1 at h1
        split at h1
        · exact absurd h1 (by decide)
        · rename_i h2
          split at h1
          · exact absurd h1 (by decide)
          · rename_i h3
            rw [List.mem_filter]
            refine ⟨?_, by simpa using h3⟩
            simp only [Bool.and_eq_true, Bool.not_eq_true', not_and, Bool.not_eq_false] at h2
            rw [List.mem_append]
            by_cases hb : (bare v).contains f.letter = true
            · exact .inl (List.contains_iff_mem.1 hb)
            · exact .inr (List.contains_iff_mem.1 (h2 (by simpa using hb)))
      have e : ((bare v ++ full v).filter fun x => !(f.letter :: seen).contains x) = ((bare v ++ full v).filter fun x => !seen.contains x).filter fun x => !(x == f.letter) := by
        rw [List.filter_filter]
        congr 1
        funext x
        simp only [List.contains_cons, Bool.not_or]
      have hlt : (((bare v ++ full v).filter fun x => !seen.contains x).filter fun x => !(x == f.letter)).length < ((bare v ++ full v).filter fun x => !seen.contains x).length := by
        rw [List.length_filter_lt_length_iff_exists]
        exact ⟨f.letter, hin, by simp⟩
      rw [e] at ih
      rw [List.length_cons]
      omega
    · rename_i h1
      exact absurd h h1
theorem few13 (v : Int) : (bare v ++ full v).length ≤ 13 := by
  unfold bare full
  repeat' split
  all_goals first | decide | simp
theorem flS_13 {v : Int} {fs : List Fl} (h : flS v [] fs = []) : fs.length ≤ 13 :=
  Nat.le_trans (flS_few v fs [] h) (Nat.le_trans (List.length_filter_le _ _) (few13 v))
theorem flat_bound (f : UInt8 → List Bs) (m : Nat) : ∀ l : Bs, (∀ a ∈ l, (bls (f a)).length ≤ m) → (bls (l.flatMap f)).length ≤ l.length * m
  | [], _ => by simp [bls]
  | a :: l, h => by
    rw [List.flatMap_cons, bls_app, List.length_append, List.length_cons, Nat.add_mul]
    have := h a (by simp)
    have := flat_bound f m l (fun b hb => h b (by simp [hb]))
    omega
theorem one_bound (x : Bs) (m : Nat) (h : x.length ≤ m) : (bls [x]).length ≤ m + 1 := by
  have := bls_bound [x] m (by simpa using h)
  simpa using this
theorem nil_bound : (bls []).length = 0 := by simp [bls]
end Go.Proofs.YtbbocbdoiealoaaGreatDoor
namespace Go.Proofs.YtbbocbdoiealoaaGreatDoor
open Go.RowKit Go.Maps
attribute [local go_sem] Oper.semAt_some
theorem Ck.kept0 {w w' : World} {X : Nat → Prop} {v : Value} {l : Bs} (h : Ck w X v l) (hf : w.grownBy w' none) : Ck w' X v l := by
  rcases h with h | ⟨g, o, c, h1, h2, h3, h4, h5, h6⟩
  · exact .inl h
  · exact .inr ⟨g, o, c, h1, h2, h3, Nat.lt_of_lt_of_le h4 hf.size, h5, fun i x hx => gb_cellN hf (h6 i x hx)⟩
def bsB (i : Nat) (c : Cmd) (d : Bs) : Bs := lnB i c d.length ++ [13, 10] ++ (if (dr i).block then d ++ [13, 10] else [])
end Go.Proofs.YtbbocbdoiealoaaGreatDoor
