/-
  circle: what is wanted for its walk.
-/
import Derived.Test.YtphhofbdekbggaaRv
namespace Go.Proofs.Ytphhofbdekbggaa
open Go.RowKit Go.MapKept Go.Sort
open Go.ChangeMaps (setBlock)
set_option linter.unusedVariables false
set_option linter.unusedSimpArgs false

theorem perm_pick {l : List MapEntry} (hn : (l.map (·.born)).Nodup) {e : MapEntry} (he : e ∈ l) : l.Perm (e :: l.filter (fun x => x.born ≠ e.born)) := by
  induction l with
  | nil => cases he
  | cons a l ih =>
    simp only [List.map_cons, List.nodup_cons] at hn
    rcases List.mem_cons.1 he with rfl | he'
    · rw [List.filter_cons, if_neg (by simp), List.filter_eq_self.2 (fun x hx => by
        simp only [ne_eq, decide_not, Bool.not_eq_eq_eq_not, Bool.not_true, decide_eq_false_iff_not]
        exact fun hb => hn.1 (List.mem_map.2 ⟨x, hx, hb⟩))]
    · have hne : a.born ≠ e.born := fun hb => hn.1 (List.mem_map.2 ⟨e, he', hb.symm⟩)
      rw [List.filter_cons, if_pos (by simpa using hne)]
      exact ((ih hn.2 he').cons a).trans (List.Perm.swap e a _)
theorem left_push (es : Array MapEntry) (seen : Array Nat) (b : Nat) : (leftOf es (seen.push b)).toList = (leftOf es seen).toList.filter (fun x => x.born ≠ b) := by
  unfold leftOf
  simp only [Array.toList_filter, List.filter_filter]
  refine List.filter_congr fun x _ => ?_
  simp [Array.contains_push]
  cases h : (x.born == b) <;> simp_all
theorem left_sub (es : Array MapEntry) (seen : Array Nat) : (leftOf es seen).toList.Sublist es.toList := by
  unfold leftOf
  rw [Array.toList_filter]
  exact List.filter_sublist
theorem rg_start {w : World} {b : Nat} {es : Array MapEntry} {cl : Nat} (hb : w.heap[b]? = some (.map es cl)) :
    (Instr.range 98 (.map (some b))).run Try.prog w = .ok (.pointer (some ⟨w.heap.size, 0, none⟩)) (w.alloc (.mapIter (some b) cl #[] cl)) := by
  simp [Instr.range, run_underlying Try.underlying98, Go.MapKept.run_getObj_map hb, Result.andThen]
def itL (es : Array MapEntry) (r : Nat) (w : World) : Nat := match w.heap[r]? with | some (.mapIter _ _ seen _) => (leftOf es seen).size | _ => 0
theorem gb_setB {w w1 : World} {r : Nat} (h : w1 = w ∨ w1 = w.drew) (o : Obj) : w.grownBy (setBlock w1 r o) (some r) := by
  rcases h with rfl | rfl
  · exact gb_block
  · exact gb_trans (gb_drew (gb_refl _ _)) gb_block
theorem setB_at {w w1 : World} {r : Nat} {o o' : Obj} (h : w1 = w ∨ w1 = w.drew) (hr : w.heap[r]? = some o) : (setBlock w1 r o').heap[r]? = some o' := by
  rcases h with rfl | rfl
  · exact (heap_set hr).1
  · exact (heap_set (w := w.drew) hr).1
/-- A point as an entry's key and value. -/
def kv (p : Pt) : Value × Value := (keyV p.1 p.2.1, .int .i64 p.2.2)
def kvE (e : MapEntry) : Value × Value := (e.key, e.val)
/-- What is told, what is left. -/
def Told (es : Array MapEntry) (M : List Pt) (seen : Array Nat) (Q : List Pt) : Prop := ∃ R, ((leftOf es seen).toList.map kvE).Perm (R.map kv) ∧ (Q ++ R).Perm M
theorem Told.start {es : Array MapEntry} {M : List Pt} (h : EntM es M) : Told es M #[] [] := by
  refine ⟨M, ?_, List.Perm.refl _⟩
  have : (leftOf es #[]).toList = es.toList := by unfold leftOf; simp
  rw [this]
  exact (show es.toList.map kvE = M.map kv from h) ▸ List.Perm.refl _
theorem Told.done {es : Array MapEntry} {M : List Pt} {seen : Array Nat} {Q : List Pt} (h : Told es M seen Q) (h0 : (leftOf es seen).size = 0) : Q.Perm M := by
  obtain ⟨R, h1, h2⟩ := h
  have h3 : (leftOf es seen).toList = [] := List.eq_nil_of_length_eq_zero (by simpa using h0)
  rw [h3] at h1
  have h4 := h1.length_eq
  simp only [List.map_nil, List.length_nil, List.length_map] at h4
  have h5 : R = [] := List.eq_nil_of_length_eq_zero h4.symm
  rw [h5, List.append_nil] at h2
  exact h2
theorem Told.next {es : Array MapEntry} {M : List Pt} {seen : Array Nat} {Q : List Pt} (h : Told es M seen Q) (hn : (es.toList.map (·.born)).Nodup) {e : MapEntry} (he : e ∈ (leftOf es seen).toList) :
    ∃ p : Pt, e.key = keyV p.1 p.2.1 ∧ e.val = .int .i64 p.2.2 ∧ Told es M (seen.push e.born) (Q ++ [p]) ∧ Q.length < M.length ∧ (leftOf es (seen.push e.born)).size < (leftOf es seen).size := by
  obtain ⟨R, h1, h2⟩ := h
  have hper := perm_pick (hn.sublist ((left_sub es seen).map (·.born))) he
  rw [← left_push] at hper
  have hm : kvE e ∈ R.map kv := h1.subset (List.mem_map.2 ⟨e, he, rfl⟩)
  obtain ⟨p, hp, hpe⟩ := List.mem_map.1 hm
  have hk : e.key = keyV p.1 p.2.1 ∧ e.val = .int .i64 p.2.2 := by
    have a := congrArg Prod.fst hpe
    have b := congrArg Prod.snd hpe
    exact ⟨a.symm, b.symm⟩
  obtain ⟨A, B, rfl⟩ := List.append_of_mem hp
  refine ⟨p, hk.1, hk.2, ⟨A ++ B, ?_, ?_⟩, ?_, ?_⟩
  · have h3 : (kvE e :: (leftOf es (seen.push e.born)).toList.map kvE).Perm (kv p :: (A ++ B).map kv) := by
      refine List.Perm.trans ?_ (h1.trans ?_)
      · exact (hper.map kvE).symm
      · have : (A ++ p :: B).Perm (p :: (A ++ B)) := List.perm_middle
        exact this.map kv
    rw [hpe] at h3
    exact List.Perm.cons_inv h3
  · refine List.Perm.trans ?_ h2
    rw [List.append_assoc]
    refine List.Perm.append_left Q ?_
    show (p :: (A ++ B)).Perm (A ++ p :: B)
    exact List.perm_middle.symm
  · have := h2.length_eq
    simp only [List.length_append, List.length_cons] at this
    omega
  · have := hper.length_eq
    simp only [List.length_cons, Array.length_toList] at this
    omega
theorem flatP_app (ps qs : List Pt) : flatP (ps ++ qs) = flatP ps ++ flatP qs := by unfold flatP; exact List.flatMap_append
theorem flatP_sing (p : Pt) : flatP [p] = [.int .u32 p.1, .int .i64 p.2.1, .int .i64 p.2.2] := by simp [flatP]
section
variable {w : World} {ops : Array Oper} {rest : List Oper} {o : Oper} {a : Act} {Q : Exit → Act → World → Prop}
/-- append(l, p). -/
theorem pushP (hgd : o.guard = none) (s x : Operand) (ho : o.op = .call { callee := .builtin .append, args := #[s, x], argTypes := #[30, 30] })
    (B : Nat) (v : Value) (n : Nat) (xs : List Value) (hs : a.eval s = v) (hown : w.ownsRow B 49 3 v n xs) (p : Pt) (hx : a.eval x = .slice (some ⟨w.heap.size, 0, none⟩) 1 1) (hn : n ≤ 100000000000) (hB : B ≤ w.heap.size)
    (h : ∀ g cap w', w'.ownsRow B 49 3 (.slice (some ⟨g, 0, none⟩) (n + 1) cap) (n + 1) (xs ++ flatP [p]) → w.grownBy w' v.ownBlock → (v.ownBlock = some g ∨ w.heap.size ≤ g) → wpList Try.prog ops Q rest (a.put o.dst (.slice (some ⟨g, 0, none⟩) (n + 1) cap)) w') : wpList Try.prog ops Q (o :: rest) a (w.alloc (.cells #[.int .u32 p.1, .int .i64 p.2.1, .int .i64 p.2.2] 49)) := by
  obtain ⟨i0, hi, hz0, hz1, hz2⟩ := info_parts Try.info49
  exact wpList_pushN hgd s x 30 ho 49 i0 _ 3 24 Try.underlying30 hi hz0 hz1 hz2 rfl (by omega) (by omega) B v n xs hs hown (flatP [p]) rfl (flatP_one _) hx hn hB h
end
theorem pat_arr (d : Array Pt) (i : Nat) (hi : i < d.size) : d[i]! = pat d.toList i := by
  rw [getElem!_pos d i hi]
  simp [pat, hi]
theorem holdsP {w : World} {B g n c : Nat} {ps : List Pt} (h : w.ownsRow B 49 3 (.slice (some ⟨g, 0, none⟩) n c) n (flatP ps)) (hn : ps.length = n) : HoldsK encPt 3 w g 0 ps.toArray := by
  intro j hj
  have hj2 : j < n * 3 := by simpa [hn] using hj
  obtain ⟨cur, hcur⟩ := row_block h g rfl
  obtain ⟨e0, e1, e2⟩ := PtAt.of_row h hn (j / 3) (by omega)
  refine ⟨?_, by simp [World.frozen?, hcur]⟩
  rw [get_flatK encPt 3 ps.toArray j (by simpa using hj), pat_arr ps.toArray (j / 3) (by simp; omega), Nat.zero_add]
  rcases (show j % 3 = 0 ∨ j % 3 = 1 ∨ j % 3 = 2 by omega) with e | e | e
  · rw [e, show w.cell? ⟨g, j, none⟩ = w.cell? ⟨g, j / 3 * 3, none⟩ by congr 2; omega, e0]
    rfl
  · rw [e, show w.cell? ⟨g, j, none⟩ = w.cell? ⟨g, j / 3 * 3 + 1, none⟩ by congr 2; omega, e1]
    rfl
  · rw [e, show w.cell? ⟨g, j, none⟩ = w.cell? ⟨g, j / 3 * 3 + 2, none⟩ by congr 2; omega, e2]
    rfl
theorem pat_eq {ps : List Pt} {i : Nat} (h : i < ps.length) : pat ps i = ps[i] := by
  unfold pat
  rw [List.getD_eq_getElem?_getD, List.getElem?_eq_getElem h]
  rfl
theorem srt_of {L : List Sv} {s k : Nat} {M : List Pt} (hM : Mp L s k M) {d : Array Pt} {n : Nat} (hn : d.size = n) (hp : d.toList.Perm M) (hs : SortedIn (ltOf cfP) 0 n d) : Srt d.toList := by
  intro i j hij hj
  have hj2 : j < n := by rw [← hn]; simpa using hj
  have h := hs i j (Nat.zero_le _) hij hj2
  rw [ltP, pat_arr d j (by omega), pat_arr d i (by omega)] at h
  simp only [decide_eq_false_iff_not] at h
  by_cases e : (pat d.toList i).1 = (pat d.toList j).1 ∧ (pat d.toList i).2.1 = (pat d.toList j).2.1
  · exfalso
    have m1 := (hM.mem _).1 (hp.subset (pat_mem d.toList i (by omega)))
    have m2 := (hM.mem _).1 (hp.subset (pat_mem d.toList j hj))
    have e2 := m1.key m2 e.1 e.2
    have hnd : d.toList.Nodup := hp.nodup_iff.2 hM.nd
    have hi : i < d.toList.length := by omega
    have : d.toList[i] = d.toList[j] := by
      rw [← pat_eq hi, ← pat_eq hj, e2]
    have := (List.getElem_inj hnd).1 this
    omega
  · omega
end Go.Proofs.Ytphhofbdekbggaa
