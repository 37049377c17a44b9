import Derived.Test.YtjkdflnnpdionaaGreatMy
/-
  all: a range over All.
-/
namespace Go.Proofs.YtjkdflnnpdionaaGreat
open Go.RowKit Go.Shelf
set_option linter.unusedVariables false
attribute [local go_sem] Oper.semAt_some

theorem equalIn_func (d : Nat) (t : TypeId) {ps rs : Array TypeId} {v : Bool} (h : Tryz.prog.underlying t = some (.func ps rs v)) (fn : Fn) (bs cs : Array Value) (w : World) : (Op.equalIn (d + 1) t (.func fn bs cs) .nilFunc).run Tryz.prog w = .ok false w := by
  simp [Op.equalIn, run_underlying h]
theorem equal_func (t : TypeId) {ps rs : Array TypeId} {v : Bool} (h : Tryz.prog.underlying t = some (.func ps rs v)) (fn : Fn) (bs cs : Array Value) (w : World) : (Op.equal t (.func fn bs cs) .nilFunc).run Tryz.prog w = .ok false w := equalIn_func 9999 t h fn bs cs w
theorem eql_func (t : TypeId) {ps rs : Array TypeId} {v : Bool} (h : Tryz.prog.underlying t = some (.func ps rs v)) (fn : Fn) (bs cs : Array Value) (w : World) : (binOp .eql t (.func fn bs cs) .nilFunc).run Tryz.prog w = .ok (.bool false) w := by
  simp only [binOp]
  simp [equal_func t h fn bs cs w]
theorem fn41 : Tryz.prog.underlying 41 = some (.func #[84] #[] false) := by kernel_rfl

section
variable {w : World} {P : Nat → Prop} {wb N : Nat} {D : Wd}
set_option maxRecDepth 100000 in
set_option maxHeartbeats 4000000 in
theorem all_36 (hG : GT w P wb N D) (c kd : Int) : Calls Tryz.prog 36 #[.pointer (some ⟨wb, 0, none⟩), .int .i64 c, .int .i64 kd] w fun y w' => y = .returned (.bool true) ∧ w.grownBy w' none := by
  obtain ⟨lsb, vs, Y, S, cl, hW, hd⟩ := hG
  obtain ⟨L, hLE⟩ : ∃ L, SL S c kd = L := ⟨_, rfl⟩
  have h9 := (hW.list hd c kd).1
  have hz := (hW.list hd c kd).2.1
  have hra := fun W (hf : w.grownBy W none) => ((hW.kept0 hf).list hd c kd).2.2.rall
  have hql := fun W (hf : w.grownBy W none) => (hW.kept0 hf).qlst c kd
  have hcs := fun W (hf : w.grownBy W none) => (hW.kept0 hf).ms.cells
  rw [hLE] at h9 hz
  simp only [hLE] at hra hql
  have hrq := fun W (hf : w.grownBy W none) => (hW.kept0 hf).ms.cells.2.1
  clear hW hd hLE
  have h41 := fun fn bs cs W => eql_func 41 fn41 fn bs cs W
  generalize hN0 : w.heap.size = N0
  have hgb : ∀ {B : World}, Below N0 w B → w.grownBy B none := fun h => ⟨h.os, h.tape, h.output, h.size, fun k hk _ => h.block k (by omega)⟩
  have hbg : ∀ {A B : World}, A.grownBy B none → N0 ≤ A.heap.size → Below N0 A B := fun h1 h2 => ⟨h1.os, h1.tape, h1.output, h1.size, fun k hk => h1.block k (by omega) (by simp)⟩
  -- the result's cell
  have a0 := World.grownBy_alloc w (.cells #[.bool false] 4) none
  have b0 := Box.new w 4 #[.bool false]
  rw [hN0] at b0
  have z0 : (w.alloc (.cells #[.bool false] 4)).heap.size = N0 + 1 := by simp [hN0]
  obtain ⟨wa, hwa⟩ : ∃ wa, w.alloc (.cells #[.bool false] 4) = wa := ⟨_, rfl⟩
  rw [hwa] at a0 b0 z0
  have hr20 := hra wa a0
  obtain ⟨_, _, _, k3⟩ := hcs wa a0
  refine (callsIn_wide (n := 8)).1 ?_
  refine callsIn_of_wp_marks Tryz.func36 rfl trivial ?_ rfl
  simp only [Tryz.ntmps36, List.size_toArray, List.length_cons, List.length_nil, Nat.reduceAdd, Nat.reduceSub, Array.replicate_succ, Array.replicate_zero, List.push_toArray, List.append_toArray, List.nil_append, List.cons_append]
  obtain ⟨F5, hF5⟩ : ∃ F5 : World → Value → World → Prop, F5 = fun (w2 : World) (v : Value) (w5 : World) => (w2.alloc (.cells #[v] 45)).grownBy w5 none ∧ w5.heap.size = w2.heap.size + 1 + 3 ∧ Box w5 29 (w2.heap.size + 1) #[.pointer (some ⟨D.qb, 0, none⟩)] ∧ Box w5 3 (w2.heap.size + 1 + 1) #[.int .i64 c] ∧ Box w5 3 (w2.heap.size + 1 + 1 + 1) #[.int .i64 kd] := ⟨_, rfl⟩
  have h19 := fun (w2 : World) (v : Value) => (all_19 D.qb c kd (w2.alloc (.cells #[v] 45))).mono (R' := fun y w' => y = .returned (.func (.func 66) #[] #[.pointer (some ⟨w2.heap.size + 1, 0, none⟩), .pointer (some ⟨w2.heap.size + 1 + 1, 0, none⟩), .pointer (some ⟨w2.heap.size + 1 + 1 + 1, 0, none⟩)]) ∧ F5 w2 v w') (by
    rintro y w' ⟨rfl, rfl⟩
    have hs : (w2.alloc (.cells #[v] 45)).heap.size = w2.heap.size + 1 := by simp
    rw [hs, hF5]
    exact ⟨rfl, box3_facts (w2.alloc (.cells #[v] 45)) D.qb c kd _ hs⟩)
  gi_wp2_with (first
    | (refine ⟨trivial, ?_⟩; gi_at_call 20; refine (callsIn_wide.2 hr20).mono ?_; rintro y w2 ⟨v, rfl, hg2, hrow⟩; (obtain ⟨ao, cc, rfl, _, _, _, hao⟩ := row_shape hrow); (have hw2 := gb_trans a0 hg2); (have k1 : ∀ o, (w2.alloc o).cell? ⟨wb, 1, none⟩ = some (.pointer (some ⟨D.qb, 0, none⟩)) := fun o => hrq _ (gb_trans hw2 (World.grownBy_alloc w2 o none))))
    | (refine ⟨trivial, ?_⟩; gi_at_call 19; refine (callsIn_wide.2 (h19 _ _)).mono ?_; rintro y w5 ⟨rfl, hE5⟩))
  rw [hF5] at hE5
  obtain ⟨f1, f2, f3, f4, f5⟩ := hE5
  clear h19 hF5 hr20 hra
  generalize hb7 : w2.heap.size = b7 at *
  have q7 := (Box.new w2 45 #[.slice ao L.length cc])
  rw [hb7] at q7
  have e2 := World.grownBy_alloc w2 (.cells #[.slice ao L.length cc] 45) none
  have x7 := q7.kept f1 (by simp)
  have x4 := ((b0.kept hg2 (by simp)).kept e2 (by simp)).kept f1 (by simp)
  have xr := row_kept (row_kept (row_base hrow (Nat.zero_le _)) e2 (by simp)) f1 (by simp)
  have hw5 := gb_trans (gb_trans hw2 e2) f1
  have e6 := World.grownBy_alloc w5 (.cells #[.int .i64 0] 3) none
  have x9 := Box.new w5 3 #[.int .i64 0]
  have z6 : (w5.alloc (.cells #[.int .i64 0] 3)).heap.size = b7 + 1 + 3 + 1 := by simp [f2]
  rw [f2] at x9
  have hw6 := gb_trans hw5 e6
  have y7 := x7.kept e6 (by simp)
  have y4 := x4.kept e6 (by simp)
  have yr := row_kept xr e6 (by simp)
  have y1 := f3.kept e6 (by simp)
  have y2 := f4.kept e6 (by simp)
  have y3 := f5.kept e6 (by simp)
  have hs2 := hg2.size
  rw [hb7] at hs2
  generalize hw6E : w5.alloc (.cells #[.int .i64 0] 3) = w6 at *
  have hB6 := hbg hw6 (by omega)
  have hs6 := hw6.size
  rw [hN0] at hs6
  obtain ⟨b9, hb9⟩ : ∃ b9, b7 + 1 + 3 = b9 := ⟨_, rfl⟩
  rw [hb9] at x9 z6
  clear hcs hrq hg2 hw2 k1 q7 e2 x7 x4 xr hw5 e6 hao hrow hw6E f1 f3 f4 f5
  refine range_list (n := 8) rfl (by decide) (gf := 66) (lb := #[.pointer (some ⟨b7 + 1, 0, none⟩), .pointer (some ⟨b7 + 1 + 1, 0, none⟩), .pointer (some ⟨b7 + 1 + 1 + 1, 0, none⟩)]) rfl trivial (enters_of Tryz.func66 (by kernel_rfl) rfl) L
    (KD (fun k => k = b9)) (fun h k => h.trans k) (fun W l r r' _ h => KD.put h)
    (fun pre V => Below N0 w V ∧ w6.heap.size ≤ V.heap.size ∧ Box V 4 N0 #[.bool false] ∧ Box V 45 b7 #[.slice ao L.length cc] ∧ V.ownsRow 0 26 1 (.slice ao L.length cc) L.length (uvs L) ∧ Box V 3 b9 #[.int .i64 (pre.length : Nat)])
    (fun _ _ _ => False) ?a1 ?hIg (fun _ _ _ _ h _ => h) ?hIp (fun _ _ _ _ _ _ h _ _ _ => h) ?h0 ?hit ?assign ?body ?done ?stop
  case assign =>
    intro l x V K hK
    gi_wp2
    exact hK
  case hIg =>
    rintro pre A B ⟨hB, hs, u1, u2, u3, u4⟩ hg
    exact ⟨hB.trans (hbg hg (by omega)), Nat.le_trans hs hg.size, u1.kept hg (by simp), u2.kept hg (by simp), row_kept u3 hg (by simp), u4.kept hg (by simp)⟩
  case hIp =>
    rintro pre V l o o' ⟨hB, hs, u1, u2, u3, u4⟩ hl ho hc
    have hg := grownBy_putObj' V l o'
    exact ⟨hB.trans ((Below.refl _ V).grown hg (by omega) (fun k e => by cases e; omega)), Nat.le_trans hs hg.size, u1.kept hg (by simp; omega), u2.kept hg (by simp; omega), ownsRow_putObj u3 _ ho hc, u4.kept hg (by simp; omega)⟩
  case h0 => exact ⟨hB6, Nat.le_refl _, y4, y7, yr, x9⟩
  case hit =>
    intro o
    have ga : w6.grownBy ((w6.alloc (.deferred (some []))).alloc o) none := gb_alloc (gb_alloc (gb_refl _ none) _) _
    have hsz : ((w6.alloc (.deferred (some []))).alloc o).heap.size = w6.heap.size + 1 + 1 := by simp
    exact all_seq (w := w) (n₀ := N0) (by decide) hz h9 (fun W' hW' => hql W' (hgb hW')) (hB6.trans (hbg ga (by omega))) (by omega) ((y1.kept ga (by simp)).cell 0) ((y2.kept ga (by simp)).cell 0) ((y3.kept ga (by simp)).cell 0) (fun k hk => by omega)
  case stop =>
    rintro D' c' pre V _ _ h _
    exact h.elim
  case body =>
    rintro l pre x V ⟨hB, hs, u1, u2, u3, u4⟩ hpre
    have hlt : pre.length < L.length := by have := hpre.length_le; simp at this; omega
    have hLx : L[pre.length]? = some x := by
      obtain ⟨r, hr⟩ := hpre
      rw [← hr]; simp
    obtain ⟨g, hag⟩ : ∃ g, ao = some ⟨g, 0, none⟩ := by
      obtain ⟨ao', cc', e, _, _, _, hao⟩ := row_shape u3
      simp at e
      obtain ⟨g, hg⟩ := hao (by omega)
      exact ⟨g, by rw [e.1, hg]⟩
    subst hag
    have hcx := row_cell u3 pre.length (.int .u64 (x : Nat)) (uvs_get hLx)
    have c7 := u2.cell 0
    have c9 := u4.cell 0
    have z9 := u4.fz 0
    simp only [List.getElem?_toArray, List.getElem?_cons_zero] at c7 c9
    have hg9 := grownBy_setCell' V b9 (.int .i64 ((pre.length : Int) + 1))
    have hbx : V.heap[b9]? = some (.cells #[.int .i64 (pre.length : Nat)] 3 (0, 0)) := u4
    have v4 := u4.set 0 (.int .i64 ((pre.length : Int) + 1))
    have HF : Hid (KeepsFrom w6.heap.size V (V.setCell ⟨b9, 0, none⟩ (.int .i64 ((pre.length : Int) + 1))) ∧ KD (fun k => k = b9) V (V.setCell ⟨b9, 0, none⟩ (.int .i64 ((pre.length : Int) + 1))) ∧ Below N0 w (V.setCell ⟨b9, 0, none⟩ (.int .i64 ((pre.length : Int) + 1))) ∧ w6.heap.size ≤ (V.setCell ⟨b9, 0, none⟩ (.int .i64 ((pre.length : Int) + 1))).heap.size ∧ Box (V.setCell ⟨b9, 0, none⟩ (.int .i64 ((pre.length : Int) + 1))) 4 N0 #[.bool false] ∧ Box (V.setCell ⟨b9, 0, none⟩ (.int .i64 ((pre.length : Int) + 1))) 45 b7 #[.slice (some ⟨g, 0, none⟩) L.length cc] ∧ (V.setCell ⟨b9, 0, none⟩ (.int .i64 ((pre.length : Int) + 1))).ownsRow 0 26 1 (.slice (some ⟨g, 0, none⟩) L.length cc) L.length (uvs L) ∧ Box (V.setCell ⟨b9, 0, none⟩ (.int .i64 ((pre.length : Int) + 1))) 3 b9 #[.int .i64 ((pre ++ [x]).length : Nat)]) := by
      refine ⟨KeepsFrom.of_grownBy hg9 (fun j hj => by cases hj; omega), KD.grown hg9 (fun r hr => by cases hr; exact ⟨rfl, _, hbx, rfl⟩), hB.trans ((Below.refl _ V).grown hg9 (by omega) (fun k e => by cases e; omega)), Nat.le_trans hs hg9.size, u1.kept hg9 (by simp; omega), u2.kept hg9 (by simp; omega), row_kept u3 hg9 (fun k hk e => ?_), ?_⟩
      · obtain ⟨cur, hcur⟩ := row_block u3 k hk
        exact ne_of_type hcur u4 (by decide) (by simpa using e)
      · rw [List.length_append, List.length_singleton]
        exact v4
    have e1 : ¬ (L.length : Int) ≤ (pre.length : Int) := by omega
    have e2 : (pre.length : Int) < (L.length : Int) := by omega
    have e3 : decide ((pre.length : Int) ≥ (L.length : Int)) = false := decide_eq_false (by omega)
    have e4 : IntKind.i64.wrap ((pre.length : Int) + 1) = (pre.length : Int) + 1 := by rw [IntKind.wrap_i64]; omega
    clear hpre hLx u3 u1 hg9 hbx v4 hB
    gi_wp2
    have h := HF.out
    simp only [List.length_append, List.length_singleton] at h
    obtain ⟨g1, g2, g3, g4, g5, g6, g7, g8⟩ := h
    rw [z6] at g1
    exact ⟨g1, g2, g3, by omega, g5, g6, g7, g8⟩
  case done =>
    rintro D' V hD ⟨hB, hs, u1, u2, u3, u4⟩ hK
    have c4 := u1.cell 0
    have c7 := u2.cell 0
    have c9 := u4.cell 0
    have z4 := u1.fz 0
    simp only [List.getElem?_toArray, List.getElem?_cons_zero] at c4 c7 c9
    have v4 := u1.set 0 (.bool true)
    have hgN := grownBy_setCell' V N0 (.bool true)
    have hBN : Below N0 w (V.setCell ⟨N0, 0, none⟩ (.bool true)) := hB.trans ((Below.refl _ V).grown hgN (by omega) (fun k e => by cases e; exact Nat.le_refl _))
    have hKN : (V.setCell ⟨N0, 0, none⟩ (.bool true)).heap[D']? = some (Obj.deferred (some [])) := by
      rw [hgN.block D' (Array.getElem?_eq_some_iff.1 hK).1 (by simp; omega)]
      exact hK
    clear u2 u3 u4
    gi_wp2
    refine ⟨by simp, .inl ⟨_, _, rfl, run_takeDeferred hKN, ?_⟩⟩
    have hgD := grownBy_putObj' (V.setCell ⟨N0, 0, none⟩ (.bool true)) D' (.deferred none)
    have v5 := Box.kept (t := 4) (b := N0) (vs := #[.bool true]) v4 hgD (by simp; omega)
    have v6 := v5.cell 0
    simp only [List.getElem?_toArray, List.getElem?_cons_zero] at v6
    have hBe := hBN.trans ((Below.refl N0 _).grown hgD (by simp; omega) (fun k e => by cases e; omega))
    refine ⟨_, ?_, rfl, hgb hBe⟩
    simp [results, Tryz.f36, go_sem, v6]
end
end Go.Proofs.YtjkdflnnpdionaaGreat
