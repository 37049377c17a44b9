/-
  Delete.
-/
import Derived.Test.YtphhofbdekbggaaTd
import Derived.Laws.OwnMore
namespace Go.Proofs.Ytphhofbdekbggaa
open Go.RowKit
set_option linter.unusedVariables false
set_option linter.unusedSimpArgs false

theorem step_append_run {ops : Array Oper} {o : Oper} {a : Act} {w : World} {K : Act → World → Prop} {Q : Exit → Act → World → Prop} {E : Prop}
    (hg : o.guard = none) (d x : Operand) (t tn : TypeId) (hop : o.op = Op.call { callee := Callee.builtin Builtin.append, args := #[d, x], argTypes := #[t, tn] })
    (v u : Value) (hd : a.eval d = v) (hx : a.eval x = u) {v' : Value} {w' : World} (hr : (Builtin.append_ #[t, tn] o.type #[v, u]).run Try.prog w = .ok v' w') (hK : K (a.put o.dst v') w') :
    if Region.wanted o (yielded ops a.tmps) = true then Oper.wp Try.prog o a w K Q else E := by
  have hw : Region.wanted o (yielded ops a.tmps) = true := by simp [Region.wanted, hg]
  rw [if_pos hw]
  exact Lib.wp_append_run w d x t tn hop v u hd hx _ _ hr hK
theorem zero26 (w : World) : (zeroValue 26).run Try.prog w = .ok (.agg #[.string ⟨#[]⟩, .int .i64 0]) w := by kernel_rfl
/-- clear(l), l of one server. -/
theorem run_clear_sv (w : World) (ty : TypeId) (g o c : Nat) (hc : ∀ j, j < 2 → (w.cell? ⟨g, o + j, none⟩).isSome = true) (hf : ∀ j, j < 2 → w.frozen? ⟨g, o + j, none⟩ = false) :
    ∃ vs : List Value, (Builtin.clear_ #[22] ty #[.slice (some ⟨g, o, none⟩) 1 c]).run Try.prog w = .ok (.tuple #[]) (w.setCells g o vs) ∧ vs.length = 2 := by
  obtain ⟨vs, hvs⟩ : ∃ vs, vs = (Builtin.zeroCells (Value.cells (.agg #[.string ⟨#[]⟩, .int .i64 0])) 1).toList := ⟨_, rfl⟩
  have hl : vs.length = 2 := by rw [hvs]; simp [Builtin.zeroCells, Value.cells]
  have h1 : ∀ v ∈ vs, v.oneCell' = true := by
    intro v hv
    rw [hvs] at hv
    simp only [Builtin.zeroCells, Array.toList_map, List.mem_map] at hv
    obtain ⟨i, _, hi⟩ := hv
    rw [← hi]
    have h3 : i % 2 = 0 ∨ i % 2 = 1 := by omega
    simp only [Value.cells]
    rcases h3 with h3 | h3 <;> simp [h3, Value.oneCell']
  have hst := run_storeCells_cells (P := Try.prog) g o vs 0 w (by rw [hl]; simpa using hc) (by rw [hl]; simpa using hf) h1
  simp only [Nat.add_zero] at hst
  refine ⟨vs, ?_, hl⟩
  simp [Builtin.clear_, run_underlying Try.underlying22, zero26, ← hvs, hst]
/-- A server less. -/
def delL (L : List Sv) (i : Nat) : List Sv := L.take i ++ L.drop (i + 1)
set_option maxHeartbeats 4000000 in
set_option maxRecDepth 100000 in
theorem delete_35 {w : World} {B b n c i : Nat} {L : List Sv} (hrow : w.ownsRow B 26 2 (.slice (some ⟨b, 0, none⟩) n c) n (flatS L)) (hn : L.length = n) (hi : i < n) (hn2 : n ≤ 1000) :
    Calls Try.prog 35 #[.slice (some ⟨b, 0, none⟩) n c, .int .i64 i, .int .i64 (i + 1 : Nat)] w fun e w' => e = .returned (.slice (some ⟨b, 0, none⟩) (n - 1) c) ∧ SvAt w' b (delL L i) ∧ w.grownBy w' (some b) := by
  obtain ⟨cur, hcur, hcs, hnc, hcm⟩ := own_cells hrow
  unfold maxLen at hcm
  obtain ⟨i0, hi0, hz0, hzs, hzb⟩ := info_parts Try.info26
  have hti := row_take hrow (m := i) (by omega)
  rw [show (flatS L).take (i * 2) = flatS (L.take i) by
    have : flatS L = flatS (L.take i) ++ flatS (L.drop i) := by rw [← flatS_app, List.take_append_drop]
    rw [this, List.take_left' (by rw [flatS_len, List.length_take]; congr 1; omega)]] at hti
  have hnews : ∃ A : Addr, (if c = i + 1 then some (⟨b, 0, none⟩ : Addr) else some ⟨b, (i + 1) * 2, none⟩) = some A ∧ ∀ j u, (flatS (L.drop (i + 1)))[j]? = some u → w.drew.cell? (A.add j) = some u := by
    have hLs : flatS L = flatS (L.take (i + 1)) ++ flatS (L.drop (i + 1)) := by rw [← flatS_app, List.take_append_drop]
    have hta : (flatS (L.take (i + 1))).length = (i + 1) * 2 := by rw [flatS_len, List.length_take]; congr 1; omega
    by_cases h : c = i + 1
    · refine ⟨⟨b, 0, none⟩, by simp [h], fun j u hj => ?_⟩
      have : L.drop (i + 1) = [] := List.drop_eq_nil_of_le (by omega)
      rw [this] at hj
      simp [flatS] at hj
    · refine ⟨⟨b, (i + 1) * 2, none⟩, by simp [h], fun j u hj => ?_⟩
      rw [Addr.add_lit]
      show w.cell? _ = _
      refine row_cell hrow _ u ?_
      rw [hLs, List.getElem?_append_right (by omega), show (i + 1) * 2 + j - (flatS (L.take (i + 1))).length = j by omega]
      exact hj
  obtain ⟨A, hA, hsrc⟩ := hnews
  have hdl : (flatS (L.drop (i + 1))).length = (n - (i + 1)) * 2 := by rw [flatS_len, List.length_drop, hn]
  obtain ⟨w2, hrun, hr2, hg2⟩ := run_append_fits (P := Try.prog) w.drew B 22 22 26 i0 2 Try.underlying22 hi0 hzs b i c (flatS (L.take i)) hti A (n - (i + 1)) (c - (i + 1)) (flatS (L.drop (i + 1))) hdl hsrc (flatS_one _) (by omega)
  rw [show i + (n - (i + 1)) = n - 1 by omega] at hrun hr2
  obtain ⟨cur2, hcur2, hcs2, _, _⟩ := own_cells hr2
  have hth : ∀ j, j < c * 2 → (w2.cell? ⟨b, j, none⟩).isSome = true := fun j hj => by
    rw [cell_of_row w2 b j _ _ _ hcur2, Array.getElem?_eq_getElem (by omega)]
    rfl
  obtain ⟨vs, hclr, hvs⟩ := run_clear_sv w2 0 b ((n - 1) * 2) (c - (n - 1)) (fun j hj => hth _ (by omega)) (fun j hj => by simp [World.frozen?, hcur2])
  have HF : Hid (SvAt (w2.setCells b ((n - 1) * 2) vs) b (delL L i) ∧ w.grownBy (w2.setCells b ((n - 1) * 2) vs) (some b)) := by
    refine ⟨SvAt.of_flat fun j u hj => ?_, gb_setCells2 _ _ (gb_trans (gb_drew (gb_refl w (some b))) hg2)⟩
    unfold delL at hj
    rw [flatS_app] at hj
    have hjl := (List.getElem?_eq_some_iff.1 hj).1
    rw [List.length_append, hdl, flatS_len, List.length_take] at hjl
    rw [World.cell?_setCells_out _ _ _ _ _ (fun _ _ => .inl (by simp only; omega))]
    exact row_cell hr2 j u hj
  have hi0 : (i : Int) < (n : Int) := by omega
  have hin : i ≤ n := by omega
  have hic : i ≤ c := by omega
  have hin1 : i + 1 ≤ n := by omega
  have hb1 : (0 : Int) ≤ (i : Int) + 1 := by omega
  have hb2 : (i : Int) + 1 ≤ (n : Int) := by omega
  have htn : ((i : Int) + 1).toNat = i + 1 := by omega
  have hne : ¬ ((i : Int) = (i : Int) + 1) := by omega
  have hcn : ¬ (c = n - 1) := by omega
  have hn1 : ((n - 1 : Nat) : Int) ≤ (n : Int) := by omega
  have hn3 : n - 1 ≤ n := by omega
  have hn4 : n - (n - 1) = 1 := by omega
  have hn5 : (n : Int) ≤ (c : Int) := by omega
  clear hsrc hdl hti hrow hcur hcs hcur2 hcs2 hth hr2 hg2 hvs hn
  go_enter Try.func35, Try.ntmps35
  go_wp2_with fail
  go_region_law (refine step_append_run rfl _ _ 22 22 rfl (.slice (some ⟨b, 0, none⟩) i c) (.slice (some A) (n - (i + 1)) (c - (i + 1))) (by simp [Act.eval, Act.put]) (by simp [Act.eval, Act.put, hA]) hrun ?_)
  go_wp2_with fail
  go_ret
  exact ⟨rfl, HF.out⟩
end Go.Proofs.Ytphhofbdekbggaa
