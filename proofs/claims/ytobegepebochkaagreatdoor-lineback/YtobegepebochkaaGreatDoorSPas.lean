import Derived.Test.YtobegepebochkaaGreatDoorSPai
import Derived.Deep.LoopGhost
import Derived.Test.YtobegepebochkaaGreatDoorSTd
import Derived.Test.YtobegepebochkaaGreatDoorSPar
import Derived.Deep.CutRange
import Derived.Test.YtobegepebochkaaGreatDoorSF
import Derived.Test.YtobegepebochkaaGreatDoorSWa
set_option linter.unusedVariables false
set_option linter.unusedSimpArgs false
namespace Go.Proofs.YtobegepebochkaaGreatDoor
open Go.RowKit Go.Maps
theorem Ck.slice {w : World} {X : Nat → Prop} {v : Value} {l : Bs} (h : Ck w X v l) : ∃ a n c, v = .slice a n c ∧ n = l.length := by
  rcases h with ⟨rfl, rfl⟩ | ⟨g, o, c, rfl, -⟩
  · exact ⟨none, 0, 0, rfl, rfl⟩
  · exact ⟨_, _, c, rfl, rfl⟩
theorem Tryz.info38 : (Tryz.prog.info? 38).map (fun i => (i.zero, i.size, i.bytes)) = some (some (.slice none 0 0), 1, 24) := by kernel_rfl
theorem Ck.cutA {X : Nat → Prop} {w : World} {a : Option Addr} {c : Nat} {l : Bs} (h : Ck w X (.slice a l.length c) l) (n m : Nat) (hn : n + m ≤ l.length) : Ck w X (.slice (Option.map (fun x => x.add n) a) m (c - n)) ((l.drop n).take m) := by
  rcases h with ⟨rfl, h⟩ | ⟨g, o, c', h1, h2, h3, h4, h5, h6⟩
  · injection h with h1 h2 h3
    subst h1 h3
    simp at hn
    obtain ⟨rfl, rfl⟩ := hn
    exact .inl ⟨rfl, rfl⟩
  · injection h1 with e1 e2 e3
    subst e1 e3
    refine .inr ⟨g, o + n, c - n, ?_, ?_, by omega, h4, h5, fun i x hx => ?_⟩
    · have : ((l.drop n).take m).length = m := by rw [List.length_take, List.length_drop]; omega
      rw [this, Option.map_some, Addr.add_mid]
    · rw [List.length_take, List.length_drop]; omega
    · rw [List.getElem?_take] at hx
      split at hx
      · rw [List.getElem?_drop] at hx
        rw [Nat.add_assoc]
        exact h6 _ x hx
      · cases hx
theorem Ck.dropA {X : Nat → Prop} {w : World} {a : Option Addr} {c : Nat} {l : Bs} (h : Ck w X (.slice a l.length c) l) (n : Nat) (hn : n ≤ l.length) : Ck w X (.slice (Option.map (fun x => x.add n) a) (l.length - n) (c - n)) (l.drop n) := by
  have := h.cutA n (l.length - n) (by omega)
  rwa [List.take_of_length_le (by rw [List.length_drop]; omega)] at this
theorem Ck.cutB {X : Nat → Prop} {w : World} {a : Option Addr} {c : Nat} {l : Bs} (h : Ck w X (.slice a l.length c) l) (n m : Nat) (hn : n + m ≤ l.length) (hc : c = n) : Ck w X (.slice a m (c - n)) ((l.drop n).take m) := by
  rcases h with ⟨rfl, h⟩ | ⟨g, o, c', h1, h2, h3, h4, h5, h6⟩
  · injection h with h1 h2 h3
    subst h1 h3
    simp at hn
    obtain ⟨rfl, rfl⟩ := hn
    exact .inl ⟨rfl, rfl⟩
  · injection h1 with e1 e2 e3
    subst e1 e3
    have hm : m = 0 := by omega
    subst hm
    refine .inr ⟨g, o, c - n, by simp, by simp, by omega, h4, h5, fun i x hx => by simp at hx⟩
theorem Ck.dropB {X : Nat → Prop} {w : World} {a : Option Addr} {c : Nat} {l : Bs} (h : Ck w X (.slice a l.length c) l) (n : Nat) (hn : n ≤ l.length) (hc : c = n) : Ck w X (.slice a (l.length - n) (c - n)) (l.drop n) := by
  have := h.cutB n (l.length - n) (by omega) hc
  rwa [List.take_of_length_le (by rw [List.length_drop]; omega)] at this
theorem Ck.dropB0 {X : Nat → Prop} {w : World} {a : Option Addr} {c : Nat} {l : Bs} (h : Ck w X (.slice a l.length c) l) (n : Nat) (hn : n ≤ l.length) (hc : c = n) : Ck w X (.slice a (l.length - n) 0) (l.drop n) := by
  have := h.dropB n hn hc
  rwa [hc, Nat.sub_self] at this
section
variable {w : World} {ops : Array Oper} {rest : List Oper} {o : Oper} {a : Act} {Q : Exit → Act → World → Prop}
theorem moreC (hgd : o.guard = none) (s x : Operand) (ho : o.op = .call { callee := .builtin .append, args := #[s, x], argTypes := #[38, 38] })
    (B : Nat) (v : Value) (n : Nat) (xs : List Value) (hs : a.eval s = v) (hown : w.ownsRow B 5 1 v n xs) (X : Nat → Prop) (xv : Value) (l : Bs) (hx : a.eval x = xv) (hc : Ck w X xv l) (hn : n + l.length ≤ 140737488355328) (hB : B ≤ w.heap.size)
    (h : ∀ v' w', w'.ownsRow B 5 1 v' (n + l.length) (xs ++ l.map b8) → w.grownBy w' v.ownBlock → wpList Tryz.prog ops Q rest (a.put o.dst v') w') : wpList Tryz.prog ops Q (o :: rest) a w := by
  obtain ⟨i0, hi, hz0, hz1, hz2⟩ := info_parts Tryz.info5
  rcases hc with ⟨rfl, rfl⟩ | ⟨g0, o0, c0, rfl, h1, -, -, -, h2⟩
  · refine wpList_append_own_none hgd s x 38 ho B 5 i0 1 Tryz.underlying38 hi _ _ _ hs hown hx ?_
    exact h v w (by simpa using hown) (gb_refl _ _)
  · refine wpList_append_own w hgd s x 38 ho B 5 i0 (.int .u8 0) 1 1 Tryz.underlying38 hi hz0 hz1 hz2 rfl (by decide) _ _ _ hs hown ⟨g0, o0, none⟩ l.length c0 (l.map b8) hx (by simp) ?_ ?_ ?_ ?_ hB ?_
    · intro j u hu
      rw [List.getElem?_map, Option.map_eq_some_iff] at hu
      obtain ⟨y, hj, rfl⟩ := hu
      rw [Addr.add_mid]
      exact h2 j y hj
    · intro u hu
      obtain ⟨y, _, rfl⟩ := List.mem_map.1 hu
      rfl
    · unfold maxLen; omega
    · omega
    · intro v' w' hown' hgr _
      exact h v' w' hown' hgr
end
theorem ck_own {w : World} {X : Nat → Prop} {B : Nat} {v : Value} {l : Bs} (h : w.ownsRow B 5 1 v l.length (l.map b8)) (hX : ∀ k, v.ownBlock = some k → ¬ X k) : Ck w X v l := by
  rcases h.2 with ⟨hv, hn0⟩ | ⟨g, cap, cur, hv, hb, hg, h1, h2, h3⟩
  · exact .inl ⟨List.eq_nil_of_length_eq_zero hn0, hv⟩
  · subst hv
    refine .inr ⟨g, 0, cap, rfl, h1, by unfold maxLen at h2; omega, row_lt h g rfl, hX g rfl, fun i x hi => ?_⟩
    rw [Nat.zero_add]
    refine row_cell h i _ ?_
    rw [List.getElem?_map, hi]; rfl
theorem made_zeros (N : Nat) : madeCells (Value.int .u8 0).cells N = Array.replicate N (.int .u8 0) := by
  apply Array.ext'
  apply List.ext_getElem?
  intro i
  by_cases h : i < N <;> simp [madeCells, Value.cells, h, Nat.mod_one]
theorem run_make_room (N : Nat) (h : N ≤ 281474976710656) (w : World) : (Instr.makeSlice 38 (.int .i64 0) (.int .i64 N)).run Tryz.prog w = .ok (.slice (some ⟨w.heap.size, 0, none⟩) 0 N) (w.alloc (.cells (Array.replicate N (.int .u8 0)) 5)) := by
  obtain ⟨i0, hi, hz0, hz1, hz2⟩ := info_parts Tryz.info5
  have := run_make (P := Tryz.prog) w 38 5 i0 (.int .u8 0) Tryz.underlying38 hi hz0 .i64 .i64 0 N (by omega) (by omega) (by rw [hz2]; omega) (by omega)
  rw [this, hz1]
  simp [made_zeros]
set_option maxRecDepth 100000 in
set_option maxHeartbeats 4000000 in
theorem copy_54 {w : World} {X : Nat → Prop} {v : Value} {l : Bs} (hv : Ck w X v l) (hl : l.length ≤ 1099511627776) :
    Calls Tryz.prog 54 #[v] w fun e w' => ∃ v', e = .returned v' ∧ w'.ownsRow w.heap.size 5 1 v' l.length (l.map b8) ∧ w.grownBy w' none := by
  obtain ⟨va, vn, vc, rfl, rfl⟩ := hv.slice
  have hmk := run_make_room l.length (by omega) w
  have hm : (w.alloc (.cells (Array.replicate l.length (.int .u8 0)) 5)).ownsRow w.heap.size 5 1 (.slice (some ⟨w.heap.size, 0, none⟩) 0 l.length) 0 [] := World.ownsRow_made w _ l.length (Nat.le_refl _) (by unfold maxLen; omega) (by simp)
  have ga := gb_alloc (gb_refl w none) (.cells (Array.replicate l.length (.int .u8 0)) 5)
  have hv2 : Ck (w.alloc (.cells (Array.replicate l.length (.int .u8 0)) 5)) (fun _ => False) (.slice va l.length vc) l := hv.kp (Kp.of (F := fun _ => False) ga) (fun _ _ h => h.elim) (fun _ _ h => h.elim)
  go_enter Tryz.func54, Tryz.ntmps54
  go_wp2_with (at_builtin; go_must (refine moreC rfl _ _ rfl w.heap.size _ 0 [] (by rfl) hm _ _ l (by rfl) hv2 (by omega) (by simp) ?_); intro v' w' h1 h2)
  go_ret
  refine ⟨v', rfl, ?_, ?_⟩
  · simpa using h1
  · exact gb_mine ga h2 (by simp [Value.ownBlock])
end Go.Proofs.YtobegepebochkaaGreatDoor
namespace Go.Proofs.YtobegepebochkaaGreatDoor
open Go.RowKit Go.Maps
theorem size41 : (Tryz.prog.info? 41).map (·.size) = some 11 := by kernel_rfl
section
variable {w : World} {ops : Array Oper} {rest : List Oper} {op : Oper} {a : Act} {Q : Exit → Act → World → Prop}
theorem atS (T : TypeId) {x y : Operand} (b o : Nat) (ho : op.op = .store T x y) (hx : a.eval x = .pointer (some ⟨b, o, none⟩)) (h : wpList Tryz.prog ops Q (op :: rest) a w) : wpList Tryz.prog ops Q (op :: rest) a w := h
theorem atL (T : TypeId) {x : Operand} (b o : Nat) (ho : op.op = .load T x) (hx : a.eval x = .pointer (some ⟨b, o, none⟩)) (h : wpList Tryz.prog ops Q (op :: rest) a w) : wpList Tryz.prog ops Q (op :: rest) a w := h
theorem storeT (T n : Nat) (hsz : (Tryz.prog.info? T).map (·.size) = some n) (hgd : op.guard = none) (x y : Operand) (ho : op.op = .store T x y) (t b o : Nat) (vs : Array Value) (hb : Box w t b vs) (hn : o + n ≤ vs.size)
    (hx : a.eval x = .pointer (some ⟨b, o, none⟩)) (cs : Array Value) (hy : a.eval y = .agg cs) (hs : cs.size = n) (h1 : cs.all (·.oneCell') = true)
    (h : ∀ W, Box W t b (sets vs o cs.toList) → w.grownBy W (some b) → wpList Tryz.prog ops Q rest (a.put op.dst undef) W) : wpList Tryz.prog ops Q (op :: rest) a w := by
  refine wpList_store_mid hgd T x y ho b o cs hx hy (by rw [hs]; exact hb.there o n hn) (by rw [hs]; exact hsz) h1 ?_
  exact h _ (hb.sets _ _) (gb_setCells _ _ (gb_refl _ _))
theorem load41 (hgd : op.guard = none) (x : Operand) (ho : op.op = .load 41 x) (t b o : Nat) (vs : Array Value) (hb : Box w t b vs) (hx : a.eval x = .pointer (some ⟨b, o, none⟩)) (cs : List Value) (hs : cs.length = 11) (hc : ∀ j v, cs[j]? = some v → vs[o + j]? = some v)
    (h : wpList Tryz.prog ops Q rest (a.put op.dst (.agg cs.toArray)) w) : wpList Tryz.prog ops Q (op :: rest) a w :=
  wpList_load_mid hgd 41 x ho b o hx cs _ (fun j v hv => by rw [hb.cell]; exact hc j v hv) Tryz.underlying41 rfl (by rw [hs]; exact size41) h
end
end Go.Proofs.YtobegepebochkaaGreatDoor
namespace Go.Proofs.YtobegepebochkaaGreatDoor
open Go.RowKit Go.Maps
attribute [local go_sem] Oper.semAt_some
def spn (i : Nat) : Bs := (rowL.map Prod.fst).getD i []
theorem size186 : (Tryz.prog.info? 186).map (·.size) = some 24 := by kernel_rfl
theorem Tryz.info186 : (Tryz.prog.info? 186).map (fun i => (i.zero, i.size, i.bytes)) = some (some (.agg #[.string ⟨#[]⟩, .string ⟨#[]⟩, .string ⟨#[]⟩, .string ⟨#[]⟩, .string ⟨#[]⟩, .string ⟨#[]⟩, .string ⟨#[]⟩, .string ⟨#[]⟩, .string ⟨#[]⟩, .string ⟨#[]⟩, .string ⟨#[]⟩, .string ⟨#[]⟩, .string ⟨#[]⟩, .string ⟨#[]⟩, .string ⟨#[]⟩, .string ⟨#[]⟩, .string ⟨#[]⟩, .string ⟨#[]⟩, .string ⟨#[]⟩, .string ⟨#[]⟩, .string ⟨#[]⟩, .string ⟨#[]⟩, .string ⟨#[]⟩, .string ⟨#[]⟩]), 24, 384) := by kernel_rfl
theorem spn_at : ∀ k : Nat, k < 24 → (#[.string ⟨#[103, 101, 116]⟩, .string ⟨#[103, 101, 116, 115]⟩, .string ⟨#[103, 97, 116]⟩, .string ⟨#[103, 97, 116, 115]⟩, .string ⟨#[115, 101, 116]⟩, .string ⟨#[97, 100, 100]⟩, .string ⟨#[114, 101, 112, 108, 97, 99, 101]⟩, .string ⟨#[97, 112, 112, 101, 110, 100]⟩, .string ⟨#[112, 114, 101, 112, 101, 110, 100]⟩, .string ⟨#[99, 97, 115]⟩, .string ⟨#[100, 101, 108, 101, 116, 101]⟩, .string ⟨#[105, 110, 99, 114]⟩, .string ⟨#[100, 101, 99, 114]⟩, .string ⟨#[116, 111, 117, 99, 104]⟩, .string ⟨#[102, 108, 117, 115, 104, 95, 97, 108, 108]⟩, .string ⟨#[118, 101, 114, 115, 105, 111, 110]⟩, .string ⟨#[118, 101, 114, 98, 111, 115, 105, 116, 121]⟩, .string ⟨#[113, 117, 105, 116]⟩, .string ⟨#[115, 116, 97, 116, 115]⟩, .string ⟨#[109, 103]⟩, .string ⟨#[109, 115]⟩, .string ⟨#[109, 100]⟩, .string ⟨#[109, 97]⟩, .string ⟨#[109, 110]⟩] : Array Value)[k]? = some (sv (spn k))
  | 0, _ => rfl
  | 1, _ => rfl
  | 2, _ => rfl
  | 3, _ => rfl
  | 4, _ => rfl
  | 5, _ => rfl
  | 6, _ => rfl
  | 7, _ => rfl
  | 8, _ => rfl
  | 9, _ => rfl
  | 10, _ => rfl
  | 11, _ => rfl
  | 12, _ => rfl
  | 13, _ => rfl
  | 14, _ => rfl
  | 15, _ => rfl
  | 16, _ => rfl
  | 17, _ => rfl
  | 18, _ => rfl
  | 19, _ => rfl
  | 20, _ => rfl
  | 21, _ => rfl
  | 22, _ => rfl
  | 23, _ => rfl
  | n + 24, h => absurd h (by omega)
set_option maxRecDepth 100000 in
set_option maxHeartbeats 4000000 in
theorem spelled_95 (i : Nat) (hi : i < 24) (w : World) : Calls Tryz.prog 95 #[.int .i64 ((i : Int) + 1)] w fun e w' => e = .returned (sv (spn i)) ∧ w.grownBy w' none := by
  obtain ⟨i0, hi0, hz0, hz1, hz2⟩ := info_parts Tryz.info186
  have e1 : IntKind.i64.wrap ((i : Int) + 1 - 1) = i := by rw [IntKind.wrap_i64]; omega
  have e2 : (i : Int) + 1 - 1 = i := by omega
  have d1 : (i : Int) < 24 := by omega
  have ga := World.grownBy_alloc w (.cells #[.string ⟨#[]⟩, .string ⟨#[]⟩, .string ⟨#[]⟩, .string ⟨#[]⟩, .string ⟨#[]⟩, .string ⟨#[]⟩, .string ⟨#[]⟩, .string ⟨#[]⟩, .string ⟨#[]⟩, .string ⟨#[]⟩, .string ⟨#[]⟩, .string ⟨#[]⟩, .string ⟨#[]⟩, .string ⟨#[]⟩, .string ⟨#[]⟩, .string ⟨#[]⟩, .string ⟨#[]⟩, .string ⟨#[]⟩, .string ⟨#[]⟩, .string ⟨#[]⟩, .string ⟨#[]⟩, .string ⟨#[]⟩, .string ⟨#[]⟩, .string ⟨#[]⟩] 186) none
  have hat := spn_at i hi
  obtain ⟨x, hx⟩ : ∃ x, spn i = x := ⟨_, rfl⟩
  rw [hx] at hat ⊢
  clear hx
  go_enter Tryz.func95, Tryz.ntmps95
  go_upto_region 2 with (first
    | (refine atS 186 w.heap.size 0 rfl rfl ?_; go_must (refine storeT 186 24 size186 rfl _ _ rfl 186 w.heap.size 0 _ (Box.new w 186 #[.string ⟨#[]⟩, .string ⟨#[]⟩, .string ⟨#[]⟩, .string ⟨#[]⟩, .string ⟨#[]⟩, .string ⟨#[]⟩, .string ⟨#[]⟩, .string ⟨#[]⟩, .string ⟨#[]⟩, .string ⟨#[]⟩, .string ⟨#[]⟩, .string ⟨#[]⟩, .string ⟨#[]⟩, .string ⟨#[]⟩, .string ⟨#[]⟩, .string ⟨#[]⟩, .string ⟨#[]⟩, .string ⟨#[]⟩, .string ⟨#[]⟩, .string ⟨#[]⟩, .string ⟨#[]⟩, .string ⟨#[]⟩, .string ⟨#[]⟩, .string ⟨#[]⟩]) (by simp) rfl _ rfl rfl (by simp [Value.oneCell']) ?_); intro W B g))
  rw [show sets #[.string ⟨#[]⟩, .string ⟨#[]⟩, .string ⟨#[]⟩, .string ⟨#[]⟩, .string ⟨#[]⟩, .string ⟨#[]⟩, .string ⟨#[]⟩, .string ⟨#[]⟩, .string ⟨#[]⟩, .string ⟨#[]⟩, .string ⟨#[]⟩, .string ⟨#[]⟩, .string ⟨#[]⟩, .string ⟨#[]⟩, .string ⟨#[]⟩, .string ⟨#[]⟩, .string ⟨#[]⟩, .string ⟨#[]⟩, .string ⟨#[]⟩, .string ⟨#[]⟩, .string ⟨#[]⟩, .string ⟨#[]⟩, .string ⟨#[]⟩, .string ⟨#[]⟩] 0 ((#[.string ⟨#[103, 101, 116]⟩, .string ⟨#[103, 101, 116, 115]⟩, .string ⟨#[103, 97, 116]⟩, .string ⟨#[103, 97, 116, 115]⟩, .string ⟨#[115, 101, 116]⟩, .string ⟨#[97, 100, 100]⟩, .string ⟨#[114, 101, 112, 108, 97, 99, 101]⟩, .string ⟨#[97, 112, 112, 101, 110, 100]⟩, .string ⟨#[112, 114, 101, 112, 101, 110, 100]⟩, .string ⟨#[99, 97, 115]⟩, .string ⟨#[100, 101, 108, 101, 116, 101]⟩, .string ⟨#[105, 110, 99, 114]⟩, .string ⟨#[100, 101, 99, 114]⟩, .string ⟨#[116, 111, 117, 99, 104]⟩, .string ⟨#[102, 108, 117, 115, 104, 95, 97, 108, 108]⟩, .string ⟨#[118, 101, 114, 115, 105, 111, 110]⟩, .string ⟨#[118, 101, 114, 98, 111, 115, 105, 116, 121]⟩, .string ⟨#[113, 117, 105, 116]⟩, .string ⟨#[115, 116, 97, 116, 115]⟩, .string ⟨#[109, 103]⟩, .string ⟨#[109, 115]⟩, .string ⟨#[109, 100]⟩, .string ⟨#[109, 97]⟩, .string ⟨#[109, 110]⟩] : Array Value)).toList = #[.string ⟨#[103, 101, 116]⟩, .string ⟨#[103, 101, 116, 115]⟩, .string ⟨#[103, 97, 116]⟩, .string ⟨#[103, 97, 116, 115]⟩, .string ⟨#[115, 101, 116]⟩, .string ⟨#[97, 100, 100]⟩, .string ⟨#[114, 101, 112, 108, 97, 99, 101]⟩, .string ⟨#[97, 112, 112, 101, 110, 100]⟩, .string ⟨#[112, 114, 101, 112, 101, 110, 100]⟩, .string ⟨#[99, 97, 115]⟩, .string ⟨#[100, 101, 108, 101, 116, 101]⟩, .string ⟨#[105, 110, 99, 114]⟩, .string ⟨#[100, 101, 99, 114]⟩, .string ⟨#[116, 111, 117, 99, 104]⟩, .string ⟨#[102, 108, 117, 115, 104, 95, 97, 108, 108]⟩, .string ⟨#[118, 101, 114, 115, 105, 111, 110]⟩, .string ⟨#[118, 101, 114, 98, 111, 115, 105, 116, 121]⟩, .string ⟨#[113, 117, 105, 116]⟩, .string ⟨#[115, 116, 97, 116, 115]⟩, .string ⟨#[109, 103]⟩, .string ⟨#[109, 115]⟩, .string ⟨#[109, 100]⟩, .string ⟨#[109, 97]⟩, .string ⟨#[109, 110]⟩] from rfl] at B
  have hc : W.cell? ⟨w.heap.size, i, none⟩ = some (sv x) := by rw [B.cell]; exact hat
  have G : w.grownBy W none := gb_mine ga g (Nat.le_refl _)
  clear hat B g ga hi0 hz0 hz1 hz2
  generalize (Value.agg #[.string ⟨#[103, 101, 116]⟩, .string ⟨#[103, 101, 116, 115]⟩, .string ⟨#[103, 97, 116]⟩, .string ⟨#[103, 97, 116, 115]⟩, .string ⟨#[115, 101, 116]⟩, .string ⟨#[97, 100, 100]⟩, .string ⟨#[114, 101, 112, 108, 97, 99, 101]⟩, .string ⟨#[97, 112, 112, 101, 110, 100]⟩, .string ⟨#[112, 114, 101, 112, 101, 110, 100]⟩, .string ⟨#[99, 97, 115]⟩, .string ⟨#[100, 101, 108, 101, 116, 101]⟩, .string ⟨#[105, 110, 99, 114]⟩, .string ⟨#[100, 101, 99, 114]⟩, .string ⟨#[116, 111, 117, 99, 104]⟩, .string ⟨#[102, 108, 117, 115, 104, 95, 97, 108, 108]⟩, .string ⟨#[118, 101, 114, 115, 105, 111, 110]⟩, .string ⟨#[118, 101, 114, 98, 111, 115, 105, 116, 121]⟩, .string ⟨#[113, 117, 105, 116]⟩, .string ⟨#[115, 116, 97, 116, 115]⟩, .string ⟨#[109, 103]⟩, .string ⟨#[109, 115]⟩, .string ⟨#[109, 100]⟩, .string ⟨#[109, 97]⟩, .string ⟨#[109, 110]⟩]) = V4
  go_wp2_with fail
  exact bodyPost_ret (v := sv x) (results_tmp Tryz.results95 _ _ _) rfl ⟨rfl, G⟩
end Go.Proofs.YtobegepebochkaaGreatDoor
