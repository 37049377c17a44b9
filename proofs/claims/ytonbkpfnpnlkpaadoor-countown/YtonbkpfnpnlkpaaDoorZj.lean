/-
  Rows of lines with marks: what lies where.
-/
import Derived.Test.YtonbkpfnpnlkpaaDoorZi
import Derived.Test.YtonbkpfnpnlkpaaDoorN
namespace Go.Proofs.YtonbkpfnpnlkpaaDoor
open Go.RowKit
set_option linter.unusedVariables false
set_option linter.unusedSimpArgs false

def mk2 (z : Int) : List Value := [.string ⟨#[]⟩, .int .u64 z]
/-- Thirty lines with a mark of their own, then those of what came behind. -/
def mf (x y : Int) (k : Nat) : List Value := [.string ⟨#[]⟩, .int .u64 (if k < 30 then x else y)]
def ml (n : Nat) (x y : Int) : List Value := rng n (mf x y)
theorem mf_len (x y : Int) (k : Nat) : (mf x y k).length = 2 := rfl
theorem ml_len (n : Nat) (x y : Int) : (ml n x y).length = n * 2 := rng_len (mf_len x y) n
theorem mf_lo {x y : Int} {k : Nat} (h : k < 30) : mf x y k = mk2 x := by unfold mf mk2; rw [if_pos h]
theorem mf_hi {x y : Int} {k : Nat} (h : 30 ≤ k) : mf x y k = mk2 y := by unfold mf mk2; rw [if_neg (by omega)]
theorem ml_succ {n : Nat} {x y : Int} (h : 30 ≤ n) : ml n x y ++ mk2 y = ml (n + 1) x y := by
  unfold ml; rw [rng_succ, mf_hi h]
theorem rng_more (f : Nat → List Value) (n : Nat) : ∀ m, rng n f ++ rng m (fun k => f (n + k)) = rng (n + m) f
  | 0 => by simp [rng_zero]
  | m + 1 => by rw [rng_succ, ← List.append_assoc, rng_more f n m, ← Nat.add_assoc, rng_succ]
theorem ml_more {n : Nat} {x y : Int} (h : 30 ≤ n) (m : Nat) : ml n x y ++ rng m (fun _ => mk2 y) = ml (n + m) x y := by
  unfold ml
  rw [← rng_more, rng_congr (f := fun _ => mk2 y) (g := fun k => mf x y (n + k)) (fun k _ => (mf_hi (by omega)).symm)]
theorem rng_take {f : Nat → List Value} {s : Nat} (h : ∀ i, (f i).length = s) {n m : Nat} (hm : m ≤ n) : (rng n f).take (m * s) = rng m f := by
  obtain ⟨d, rfl⟩ : ∃ d, n = m + d := ⟨n - m, by omega⟩
  rw [← rng_more, List.take_append_of_le_length (by rw [rng_len h]; exact Nat.le_refl _), List.take_of_length_le (by rw [rng_len h]; exact Nat.le_refl _)]
theorem ml_lo (n : Nat) (x y z : Int) (h : n ≤ 30) : ml n x y = ml n x z := rng_congr fun k hk => by rw [mf_lo (by omega), mf_lo (by omega)]
/-- The number of a line. -/
theorem row_mark {w : World} {B g n c : Nat} {x y : Int} (h : w.ownsRow B 60 2 (.slice (some ⟨g, 0, none⟩) n c) n (ml n x y)) {k : Nat} (hk : k < n) : w.cell? ⟨g, k * 2 + 1, none⟩ = some (.int .u64 (if k < 30 then x else y)) :=
  row_cell h (k * 2 + 1) _ (by unfold ml; rw [rng_get (mf_len x y) hk (by omega)]; rfl)

/-- append of lines: whether it fits. -/
theorem run_psh60 (w : World) (ty : TypeId) (v : Value) (n : Nat) (xs : List Value) (hown : w.ownsRow 0 60 2 v n xs) (ad : Addr) (m c : Nat) (news : List Value) (hl : news.length = m * 2) (hnews : ∀ j u, news[j]? = some u → w.cell? (ad.add j) = some u) (h1 : ∀ u ∈ news, u.oneCell' = true) (hm : 0 < m) (hn : n + m ≤ 100000) :
    ∃ v' w', (Builtin.append_ #[37, 37] ty #[v, .slice (some ad) m c]).run Tryd.prog w = .ok v' w' ∧ w'.ownsRow 0 60 2 v' (n + m) (xs ++ news) ∧ Psh w w' v n m v' := by
  obtain ⟨i0, hi, hz0, hz1, hz2⟩ := info_parts Tryd.info60
  rcases hown.2 with ⟨rfl, h0⟩ | ⟨g, cap, cur, rfl, h2, h3, h4, h5, h6, h7⟩
  · subst h0
    obtain ⟨g, cap, w', hr, a1, a2, a3, _⟩ := run_append_lies (P := Tryd.prog) w 37 ty 0 60 i0 _ 2 24 Tryd.underlying37 hi hz0 hz1 hz2 rfl (by omega) _ 0 xs hown ad m c news hl hnews h1 hm (by unfold maxLen; omega) (by omega) (Nat.zero_le _) _ rfl
    refine ⟨_, w', hr, a1, .inr ⟨g, cap, rfl, ?_, a2⟩⟩
    rcases a3 with a3 | a3
    · simp [Value.ownBlock] at a3
    · omega
  · by_cases hf : n + m ≤ cap
    · obtain ⟨w', hr, a1, a2⟩ := run_append_fits (P := Tryd.prog) w 0 37 ty 60 i0 2 Tryd.underlying37 hi hz1 g n cap xs hown ad m c news hl hnews h1 hf
      exact ⟨_, w', hr, a1, .inl ⟨g, cap, rfl, hf, rfl, a2⟩⟩
    · obtain ⟨v', w', hr, a1, a2⟩ := run_append_arg_grows (P := Tryd.prog) w 37 ty 60 i0 _ 2 24 Tryd.underlying37 hi hz0 hz1 hz2 rfl (by omega) ⟨g, 0, none⟩ n cap xs hown.1 (fun j u hj => hown.cells rfl j u hj) ad m c news hl hnews (by omega) (by unfold maxLen; omega) (by omega)
      obtain ⟨g', cap', rfl, hb, _⟩ := a1.form (by omega)
      exact ⟨_, w', hr, row_base a1 (Nat.zero_le _), .inr ⟨g', cap', rfl, hb, a2⟩⟩
theorem Tryd.info37 : (Tryd.prog.info? 37).map (fun i => (i.zero, i.size, i.bytes)) = some (some (.slice none 0 0), 1, 24) := by kernel_rfl
section
variable {w : World} {ops : Array Oper} {rest : List Oper} {o : Oper} {a : Act} {Q : Exit → Act → World → Prop}
theorem push60p (hgd : o.guard = none) (s x : Operand) (ho : o.op = .call { callee := .builtin .append, args := #[s, x], argTypes := #[37, 37] })
    (v : Value) (n : Nat) (xs : List Value) (hs : a.eval s = v) (hown : w.ownsRow 0 60 2 v n xs) (u : Int) (hx : a.eval x = .slice (some ⟨w.heap.size, 0, none⟩) 1 1) (hn : n ≤ 20000)
    (h : ∀ v' w', w'.ownsRow 0 60 2 v' (n + 1) (xs ++ mk2 u) → Psh w w' v n 1 v' → wpList Tryd.prog ops Q rest (a.put o.dst v') w') : wpList Tryd.prog ops Q (o :: rest) a (w.alloc (.cells #[.string ⟨#[]⟩, .int .u64 u] 60)) := by
  refine wpList_plain hgd fun K hK => ?_
  obtain ⟨v', w', hr, a1, a2⟩ := run_psh60 (w.alloc (.cells #[.string ⟨#[]⟩, .int .u64 u] 60)) o.type v n xs (World.ownsRow.alloc hown _) ⟨w.heap.size, 0, none⟩ 1 1 (mk2 u) rfl (World.news_of_block (cs := #[.string ⟨#[]⟩, .int .u64 u]) (t := 60) (fr := (0, 0)) (heap_alloc_new w _)) (by simp [mk2, Value.oneCell']) (by omega) (by omega)
  unfold Oper.wp
  simp [execOp, ho, resolve, invoke, builtin, hs, hx, hr, Result.andThen]
  exact hK _ _ (h v' w' a1 (psh_trans (fun r => World.grownBy_alloc w _ r) a2))
theorem more60p (hgd : o.guard = none) (s x : Operand) (ho : o.op = .call { callee := .builtin .append, args := #[s, x], argTypes := #[37, 37] })
    (v : Value) (n : Nat) (xs : List Value) (hs : a.eval s = v) (hown : w.ownsRow 0 60 2 v n xs) (ad : Addr) (m c : Nat) (news : List Value) (hx : a.eval x = .slice (some ad) m c) (hl : news.length = m * 2) (hnews : ∀ j u, news[j]? = some u → w.cell? (ad.add j) = some u) (h1 : ∀ u ∈ news, u.oneCell' = true) (hm : 0 < m) (hn : n + m ≤ 100000)
    (h : ∀ v' w', w'.ownsRow 0 60 2 v' (n + m) (xs ++ news) → Psh w w' v n m v' → wpList Tryd.prog ops Q rest (a.put o.dst v') w') : wpList Tryd.prog ops Q (o :: rest) a w := by
  refine wpList_plain hgd fun K hK => ?_
  obtain ⟨v', w', hr, a1, a2⟩ := run_psh60 w o.type v n xs hown ad m c news hl hnews h1 hm hn
  unfold Oper.wp
  simp [execOp, ho, resolve, invoke, builtin, hs, hx, hr, Result.andThen]
  exact hK _ _ (h v' w' a1 a2)
theorem push37 (hgd : o.guard = none) (s x : Operand) (ho : o.op = .call { callee := .builtin .append, args := #[s, x], argTypes := #[73, 73] })
    (B : Nat) (v : Value) (n : Nat) (xs : List Value) (hs : a.eval s = v) (hown : w.ownsRow B 37 1 v n xs) (u : Value) (hu : u.oneCell' = true) (hx : a.eval x = .slice (some ⟨w.heap.size, 0, none⟩) 1 1) (hn : n ≤ 100000000000) (hB : B ≤ w.heap.size)
    (h : ∀ g cap w', w'.ownsRow B 37 1 (.slice (some ⟨g, 0, none⟩) (n + 1) cap) (n + 1) (xs ++ [u]) → w.grownBy w' v.ownBlock → (v.ownBlock = some g ∨ w.heap.size ≤ g) → wpList Tryd.prog ops Q rest (a.put o.dst (.slice (some ⟨g, 0, none⟩) (n + 1) cap)) w') : wpList Tryd.prog ops Q (o :: rest) a (w.alloc (.cells #[u] 37)) := by
  obtain ⟨i0, hi, hz0, hz1, hz2⟩ := info_parts Tryd.info37
  exact wpList_pushN hgd s x 73 ho 37 i0 _ 1 24 Tryd.underlying73 hi hz0 hz1 hz2 rfl (by omega) (by omega) B v n xs hs hown [u] rfl (by simp [hu]) hx hn hB h
end

/-- K lists of thirty lines that were told. -/
structure Tl (w : World) (FB : Nat → Prop) (tv : Value) (K : Nat) (V : Nat → Value) (f : Nat → Nat → List Value) : Prop where
  hr : w.ownsRow 0 37 1 tv K (vsL V K)
  vs : ∀ i, i < K → w.ownsRow 0 60 2 (V i) 30 (rng 30 (f i))
  fl : ∀ i l, (f i l).length = 2
  vv : ∀ i j g, i < K → j < K → i ≠ j → (V i).ownBlock = some g → (V j).ownBlock ≠ some g
  fv : ∀ i g, i < K → (V i).ownBlock = some g → FB g
  ft : ∀ g, tv.ownBlock = some g → FB g
  lt : ∀ k, FB k → k < w.heap.size
  hK : K ≤ 100
theorem Tl.same {w w' : World} {FB : Nat → Prop} {tv : Value} {K : Nat} {V : Nat → Value} {f : Nat → Nat → List Value} (h : Tl w FB tv K V f) (hs : w.heap.size ≤ w'.heap.size) (hf : ∀ k, FB k → w'.heap[k]? = w.heap[k]?) : Tl w' FB tv K V f :=
  ⟨row_same h.hr (fun k hk => hf k (h.ft k hk)), fun i hi => row_same (h.vs i hi) (fun k hk => hf k (h.fv i k hi hk)), h.fl, h.vv, h.fv, h.ft, fun k hk => Nat.lt_of_lt_of_le (h.lt k hk) hs, h.hK⟩
theorem Tl.kept0 {w w' : World} {FB : Nat → Prop} {tv : Value} {K : Nat} {V : Nat → Value} {f : Nat → Nat → List Value} (h : Tl w FB tv K V f) (hf : w.grownBy w' none) : Tl w' FB tv K V f := h.same hf.size (fun k hk => hf.block k (h.lt k hk) (by simp))
theorem Tl.kept {w w' : World} {FB F : Nat → Prop} {tv : Value} {K : Nat} {V : Nat → Value} {f : Nat → Nat → List Value} (h : Tl w FB tv K V f) (hf : Kp F w w') (hd : ∀ k, FB k → ¬ F k) : Tl w' FB tv K V f := h.same hf.size (fun k hk => hf.block k (h.lt k hk) (hd k hk))

set_option maxRecDepth 100000 in
set_option maxHeartbeats 8000000 in
theorem holds_48 {w : World} {tv gv : Value} {K m : Nat} {V G : Nat → Value} {c : Int} (hr : w.ownsRow 0 37 1 tv K (vsL V K)) (hx : w.ownsRow 0 37 1 gv K (vsL G K)) (hK : K ≤ 100) (hm : m ≤ 1000) (hc0 : 0 ≤ c) (hc : c ≤ 10000)
    (hvs : ∀ i, i < K → w.ownsRow 0 60 2 (V i) 30 (ml 30 i (c + i))) (hxs : ∀ i, i < K → w.ownsRow 0 60 2 (G i) (30 + m) (ml (30 + m) i (c + i))) :
    Calls Tryd.prog 48 #[tv, gv, .int .i64 c] w fun y w' => y = .returned (.bool true) ∧ w' = w := by
  obtain ⟨hao, hcp, hdh, _, _, _, hposh⟩ := row_shape hr
  subst hdh
  obtain ⟨xao, xcp, hdx, _, _, _, hposx⟩ := row_shape hx
  subst hdx
  go_enter Tryd.func48, Tryd.ntmps48
  go_wp2
  go_loopw [7] (fun v wr => ∃ i : Nat, i ≤ K ∧ v = .int .i64 i ∧ wr = w) (fun v _ => K - (intOf v).toNat)
  case atStart => exact ⟨0, by omega, rfl, rfl⟩
  case round =>
    obtain ⟨i, hi, rfl, hwr⟩ := hrel
    subst hwr
    by_cases hiK : i < K
    · obtain ⟨gh, rfl⟩ := hposh (by omega)
      obtain ⟨gx, rfl⟩ := hposx (by omega)
      have hV := hvs i hiK
      have hX := hxs i hiK
      have d1 : wr.cell? ⟨gh, i, none⟩ = some (V i) := row_cell hr i _ (by unfold vsL; simp [hiK])
      have d2 : wr.cell? ⟨gx, i, none⟩ = some (G i) := row_cell hx i _ (by unfold vsL; simp [hiK])
      obtain ⟨va, vc, hVs, _, _, _, hposv⟩ := row_shape hV
      obtain ⟨xa, xc, hXs, _, _, _, hposxx⟩ := row_shape hX
      rw [hVs] at d1 hV
      rw [hXs] at d2 hX
      obtain ⟨g1, rfl⟩ := hposv (by omega)
      obtain ⟨g2, rfl⟩ := hposxx (by omega)
      have hib : (i : Int) < K := by omega
      have q1 : IntKind.u64.wrap (i : Int) = i := by rw [IntKind.wrap_u64]; omega
      have q2 : IntKind.i64.wrap (c + (i : Int)) = c + i := by rw [IntKind.wrap_i64]; omega
      have q3 : IntKind.u64.wrap (c + (i : Int)) = c + i := by rw [IntKind.wrap_u64]; omega
      clear hr hx hvs hxs hposh hposx hposv hposxx hVs hXs
      go_wp2
      go_loopw [8] (fun v wq => ∃ k : Nat, k ≤ 30 + m ∧ v = .int .i64 k ∧ wq = wr) (fun v _ => 30 + m - (intOf v).toNat)
      case atStart => exact ⟨0, by omega, rfl, rfl⟩
      case round =>
        obtain ⟨k, hk, rfl, hwq⟩ := hrel
        subst hwq
        by_cases hkn : k < 30 + m
        · have hkb : (k : Int) < 30 + m := by omega
          have e2 := row_mark hX hkn
          by_cases hlo : k < 30
          · have e1 := row_mark hV hlo
            rw [if_pos hlo] at e1 e2
            have hlb : (k : Int) < 30 := by omega
            clear hV hX
            go_wp2
            exact ⟨⟨k + 1, by omega, by go_num, trivial⟩, by simp [intOf]; omega⟩
          · rw [if_neg hlo] at e2
            have hlb : ¬ (k : Int) < 30 := by omega
            have hlb2 : (30 : Int) ≤ k := by omega
            clear hV hX
            go_wp2
            exact ⟨⟨k + 1, by omega, by go_num, trivial⟩, by simp [intOf]; omega⟩
        · obtain rfl : k = 30 + m := by omega
          clear hV hX
          go_wp2
          exact ⟨⟨i + 1, by omega, by go_num, trivial⟩, by simp [intOf]; omega⟩
    · obtain rfl : i = K := by omega
      clear hr hx hvs hxs hposh hposx
      go_wp2
      go_ret
      exact ⟨rfl, rfl⟩

end Go.Proofs.YtonbkpfnpnlkpaaDoor
