import Derived.Test.YtijpploeofdhbaaGreatZq
import Derived.Laws.AppendOwnNone
import Derived.Deep.AppendLies
import Derived.Laws.OwnMore
/-
  QueueRow: rows that are laid anew.
-/
namespace Go.Proofs.YtijpploeofdhbaaGreat
open Go.RowKit
set_option linter.unusedVariables false

theorem own_new {w : World} {us : List Value} {n : Nat} (hn : us.length = n) (hm : n ≤ maxLen) : (w.alloc (.cells us.toArray 26)).ownsRow w.heap.size 26 1 (.slice (some ⟨w.heap.size, 0, none⟩) n n) n us := by
  refine ⟨by omega, .inr ⟨w.heap.size, n, us.toArray, rfl, Nat.le_refl _, heap_alloc_new w _, Nat.le_refl _, hm, by simp [hn], ?_⟩⟩
  rw [List.take_of_length_le (by simp [hn])]
/-- The cells of a part of a row. -/
theorem part_cells {w : World} {B g cap : Nat} {xs : List Nat} (h : w.ownsRow B 26 1 (.slice (some ⟨g, 0, none⟩) xs.length cap) xs.length (uvs xs)) (o n : Nat) (hn : o + n ≤ xs.length) : ∀ j u, (uvs ((xs.drop o).take n))[j]? = some u → w.cell? ((⟨g, o, none⟩ : Addr).add j) = some u := fun j u hj => by
  rw [Addr.add_mid]
  refine row_cell h _ _ ?_
  simp only [uvs, List.getElem?_map, List.getElem?_take, List.getElem?_drop] at hj ⊢
  split at hj
  · exact hj
  · simp at hj
theorem cell_new8 (w : World) (x : Int) : (w.alloc (.cells #[.int .u64 x] 26)).cell? ⟨w.heap.size, 0, none⟩ = some (.int .u64 x) := cell_of_row _ _ 0 _ _ _ (heap_alloc_new w _)
theorem news1 {W : World} {b : Nat} {H : Nat} (h : W.cell? ⟨b, 0, none⟩ = some (.int .u64 (H : Int))) : ∀ t u, [Value.int .u64 (H : Int)][t]? = some u → W.cell? ((⟨b, 0, none⟩ : Addr).add t) = some u := fun t u ht => by
  cases t with
  | zero =>
    simp at ht
    rw [Addr.add_mid, ← ht]
    exact h
  | succ t => simp at ht
theorem uvs_one (xs : List Nat) : ∀ u ∈ uvs xs, u.oneCell' = true := fun u hu => by
  obtain ⟨z, _, rfl⟩ := List.mem_map.1 hu
  rfl
theorem uvs_len (xs : List Nat) : (uvs xs).length = xs.length := by simp [uvs]

section
variable {w : World} {ops : Array Oper} {rest : List Oper} {o : Oper} {a : Act} {Q : Exit → Act → World → Prop}
theorem front26 (hgd : o.guard = none) (s x : Operand) (ho : o.op = .call { callee := .builtin .append, args := #[s, x], argTypes := #[45, 45] })
    (base : Nat) (wv : Value) (xs : List Nat) (hx : a.eval x = wv) (hrow : w.ownsRow base 26 1 wv xs.length (uvs xs)) (hn : xs.length ≤ 1000000) (hs : a.eval s = .slice (some ⟨w.heap.size, 0, none⟩) 1 1) (u : Nat) (hb : base ≤ w.heap.size)
    (h : ∀ v' w', w'.ownsRow base 26 1 v' (u :: xs).length (uvs (u :: xs)) → w.grownBy w' none → (∀ g, v'.ownBlock = some g → w.heap.size ≤ g) → wpList Tryz.prog ops Q rest (a.put o.dst v') w') : wpList Tryz.prog ops Q (o :: rest) a (w.alloc (.cells #[.int .u64 (u : Int)] 26)) := by
  obtain ⟨i0, hi, hz0, hz1, hz2⟩ := info_parts Tryz.info26
  have hal := World.grownBy_alloc w (.cells #[.int .u64 (u : Int)] 26) none
  have hown : (w.alloc (.cells #[.int .u64 (u : Int)] 26)).ownsRow w.heap.size 26 1 (.slice (some ⟨w.heap.size, 0, none⟩) 1 1) 1 [.int .u64 (u : Int)] := own_new (us := [.int .u64 (u : Int)]) rfl (by unfold maxLen; omega)
  have hsz : (w.alloc (.cells #[.int .u64 (u : Int)] 26)).heap.size = w.heap.size + 1 := by simp
  have hrow1 := row_kept hrow hal (by simp)
  obtain ⟨ao, cap, rfl, _, _, _, hao⟩ := row_shape hrow
  have fin : ∀ v' w', w'.ownsRow w.heap.size 26 1 v' (1 + xs.length) ([.int .u64 (u : Int)] ++ uvs xs) → (w.alloc (.cells #[.int .u64 (u : Int)] 26)).grownBy w' (some w.heap.size) → wpList Tryz.prog ops Q rest (a.put o.dst v') w' := fun v' w' h1 h2 => by
    refine h v' w' ?_ (gb_mine hal h2 (Nat.le_refl _)) (fun g hg => (h1.lt g hg).1)
    have := row_base h1 hb
    rw [Nat.add_comm] at this
    exact this
  by_cases h0 : xs = []
  · subst h0
    cases ao with
    | none =>
      have hc0 : cap = 0 := by
        rcases hrow.2 with ⟨e1, _⟩ | ⟨g, c, cur, hv, _⟩
        · simp at e1; exact e1
        · simp at hv
      subst hc0
      refine wpList_append_own_none hgd s x 45 ho w.heap.size 26 i0 1 Tryz.underlying45 hi _ _ _ hs hown hx ?_
      exact fin _ _ (by simpa [uvs] using hown) (gb_refl _ _)
    | some ad =>
      refine wpList_append_own _ hgd s x 45 ho w.heap.size 26 i0 (.int .u64 0) 1 8 Tryz.underlying45 hi hz0 hz1 hz2 rfl (by decide) _ _ _ hs hown ad 0 cap [] hx rfl (by simp) (by simp) (by unfold maxLen; omega) (by omega) (by omega) ?_
      intro v' w' h1 h2 _
      exact fin v' w' (by simpa [uvs] using h1) h2
  · have hpos : 0 < xs.length := List.length_pos_iff.2 h0
    obtain ⟨g, rfl⟩ := hao hpos
    refine wpList_append_own _ hgd s x 45 ho w.heap.size 26 i0 (.int .u64 0) 1 8 Tryz.underlying45 hi hz0 hz1 hz2 rfl (by decide) _ _ _ hs hown ⟨g, 0, none⟩ xs.length cap (uvs xs) hx (by simp [uvs]) ?_ (uvs_one xs) (by unfold maxLen; omega) (by omega) (by omega) ?_
    · have := part_cells hrow1 0 xs.length (by omega)
      simpa using this
    · intro v' w' h1 h2 _
      exact fin v' w' h1 h2
end

/-- append in a region that draws. -/
theorem step_app26 {w : World} {ops : Array Oper} {o : Oper} {a : Act} {K : Act → World → Prop} {Q : Exit → Act → World → Prop} {E : Prop} (hgd : o.guard = none) (s x : Operand)
    (ho : o.op = .call { callee := .builtin .append, args := #[s, x], argTypes := #[45, 45] })
    (base g n cap : Nat) (xs : List Value) (hs : a.eval s = .slice (some ⟨g, 0, none⟩) n cap) (hown : w.ownsRow base 26 1 (.slice (some ⟨g, 0, none⟩) n cap) n xs)
    (ad : Addr) (m c : Nat) (news : List Value) (hx : a.eval x = .slice (some ad) m c) (hl : news.length = m) (hnews : ∀ j u, news[j]? = some u → w.cell? (ad.add j) = some u) (h1 : ∀ u ∈ news, u.oneCell' = true)
    (hlen : n + m ≤ 1000000) (hbase : base ≤ w.heap.size)
    (h : ∀ g' cap' w', w'.ownsRow base 26 1 (.slice (some ⟨g', 0, none⟩) (n + m) cap') (n + m) (xs ++ news) → w.grownBy w' (some g) → (g' = g ∨ w.heap.size ≤ g') → K (a.put o.dst (.slice (some ⟨g', 0, none⟩) (n + m) cap')) w') :
    if Region.wanted o (yielded ops a.tmps) = true then Oper.wp Tryz.prog o a w K Q else E := by
  obtain ⟨i0, hi, hz0, hz1, hz2⟩ := info_parts Tryz.info26
  rcases Nat.eq_zero_or_pos m with h0 | h0
  · subst h0
    have hw : Region.wanted o (yielded ops a.tmps) = true := by simp [Region.wanted, hgd]
    rw [if_pos hw]
    have hnc : n + 0 ≤ cap := by
      obtain ⟨ao, cap', e, _, h2, _⟩ := row_shape hown
      simp at e
      omega
    obtain ⟨w', hr, h2, h3⟩ := run_append_fits (P := Tryz.prog) w base 45 o.type 26 i0 1 Tryz.underlying45 hi hz1 g n cap xs hown ad 0 c news (by omega) hnews h1 hnc
    unfold Oper.wp execOp
    simp only [ho, resolve, invoke, builtin, Sem.run_bind, Sem.run_pure, Result.andThen_ok, List.map_toArray, List.map_cons, List.map_nil, hs, hx, hr]
    exact h g cap w' h2 h3 (.inl rfl)
  · refine step_append_lies w hgd s x 45 ho base 26 i0 (.int .u64 0) 1 8 Tryz.underlying45 hi hz0 hz1 hz2 rfl (by omega) _ n xs hs hown ad m c news hx (by omega) hnews h1 h0 (by unfold maxLen; omega) (by omega) hbase w.heap.size rfl ?_
    intro g' cap' w' h2 h3 h4 h5
    refine h g' cap' w' h2 h3 ?_
    rcases h4 with h4 | h4
    · simp [Value.ownBlock] at h4
      exact .inl h4.symm
    · exact .inr (by omega)

set_option maxRecDepth 100000 in
set_option maxHeartbeats 4000000 in
theorem queueRow_walk (N Kd Sh : Int) (a : Option Addr) (m c : Nat) (w : World) (hcell : ∀ j, j < m → ∃ g o b, a = some ⟨g, o, none⟩ ∧ w.cell? ⟨g, o + j, none⟩ = some (.bool b)) : Calls Tryz.prog 7 #[.agg #[.int .i64 N, .int .i64 Kd, .int .i64 Sh, .slice a m c]] w fun y w' => y = .returned (.bool true) ∧ w.grownBy w' none := by
  obtain ⟨n, hn⟩ : ∃ n : Nat, N % 40 = n := ⟨(N % 40).toNat, by omega⟩
  obtain ⟨k, hk⟩ : ∃ k : Nat, Kd % 3 = k := ⟨(Kd % 3).toNat, by omega⟩
  have hn2 : n < 40 := by omega
  have hk2 : k < 3 := by omega
  have hwn := fun W => within_any N 40 (by omega) (by omega) W
  have hwk := fun W => within_any Kd 3 (by omega) (by omega) W
  rw [hn] at hwn
  rw [hk] at hwk
  have hal := World.grownBy_alloc w (.cells #[.int .i64 N, .int .i64 Kd, .int .i64 Sh, .slice a m c] 62) none
  have hbx := Box.new w 62 #[.int .i64 N, .int .i64 Kd, .int .i64 Sh, .slice a m c]
  have hbg := (begun_ww (w.alloc (.cells #[.int .i64 N, .int .i64 Kd, .int .i64 Sh, .slice a m c] 62))).mono (R' := fun y w1 => ∃ wb qb : Nat, y = .returned (.pointer (some ⟨wb, 0, none⟩)) ∧ w1.cell? ⟨w.heap.size, 0, none⟩ = some (.int .i64 N) ∧ w1.cell? ⟨w.heap.size, 1, none⟩ = some (.int .i64 Kd) ∧ Hid (QS w w1 wb qb k (.slice none 0 0) 0 [] [] #[.int .i64 N, .int .i64 Kd, .int .i64 Sh, .slice a m c])) (by
    rintro y w1 ⟨wb, qb, rfl, hf, hW⟩
    have hb1 := hbx.kept hf (by simp)
    have e : upX X0 0 k ([] : List Nat).reverse = X0 := by
      funext c2 k2
      simp [upX, X0]
    rw [← e] at hW
    refine ⟨wb, qb, rfl, hb1.cell 0, hb1.cell 1, ⟨⟨_, _, hW, fun g hg => by simp [Value.ownBlock] at hg, fun k hk => ?_⟩, World.ownsRow_nil _ _ _ _, gb_trans hal hf, hb1, fun H hH => by simp at hH, hk2⟩⟩
    have h2 : (w.alloc (.cells #[.int .i64 N, .int .i64 Kd, .int .i64 Sh, .slice a m c] 62)).heap.size = w.heap.size + 1 := by simp
    have h3 : (w.alloc (.cells #[.int .i64 N, .int .i64 Kd, .int .i64 Sh, .slice a m c] 62)).heap.size ≤ k := hk
    omega)
  clear hbx hn hk
  have hwk3 : (k : Int) < 3 := by omega
  have hkz : (1 : Int) + (k : Int) = (k : Int) + 1 := by omega
  go_enter Tryz.func7, Tryz.ntmps7
  go_wp2_with (first | (go_at_call 10; go_must (refine hbg.mono ?_); rintro y w1 ⟨wb, qb, rfl, d0, d1, hE1⟩) | (go_at_call 16; with_reducible refine (hwn _).mono ?_; rintro y w' ⟨rfl, rfl⟩) | (go_at_call 16; with_reducible refine (hwk _).mono ?_; rintro y w' ⟨rfl, rfl⟩) | fail)
  go_loopw [6, 7] (fun wv iv wr => ∃ (i : Nat) (xs : List Nat), iv = .int .i64 i ∧ i ≤ n ∧ xs.length = i ∧ Hid (QS w wr wb qb k wv i xs xs #[.int .i64 N, .int .i64 Kd, .int .i64 Sh, .slice a m c])) (fun _ iv _ => n - (intOf iv).toNat)
  case atStart => exact ⟨0, [], rfl, by omega, rfl, hE1⟩
  case round =>
    obtain ⟨i, xs, rfl, hi, hxl, hE⟩ := hrel
    have hiz : (i : Int) ≤ (n : Int) := by omega
    by_cases hin : i < n
    · have hinz : (i : Int) < (n : Int) := by omega
      have hd : decide ((i : Int) < (n : Int)) = true := decide_eq_true hinz
      have hsub0 := hE.out.sub
      have hH : ((8 * i + 1 : Nat) : Int) = ((8 * (i + 1 - 1) + 1 : Nat) : Int) := rfl
      have hmk := (qs_makes hE.out (by omega)).mono (R' := fun y w2 => ∃ g cap : Nat, y = .returned (.bool true) ∧ w2.cell? ⟨wb, 4, none⟩ = some (.slice (some ⟨g, 0, none⟩) (i + 1) cap) ∧ w2.cell? ⟨g, i, none⟩ = some (.int .u64 ((8 * i + 1 : Nat) : Int)) ∧ w2.cell? ⟨wb, 1, none⟩ = some (.pointer (some ⟨qb, 0, none⟩)) ∧ w2.cell? ⟨w.heap.size, 3, none⟩ = some (.slice a m c) ∧ Hid (QS w w2 wb qb k u6 (i + 1) xs xs #[.int .i64 N, .int .i64 Kd, .int .i64 Sh, .slice a m c])) (by
        rintro y w2 ⟨rfl, h2⟩
        obtain ⟨g, cap, e1, e2, e3⟩ := h2.told
        exact ⟨g, cap, rfl, e1, e2, e3, h2.bx.cell 3, h2⟩)
      have hla := fun w2 (hE2 : Hid (QS w w2 wb qb k u6 (i + 1) xs xs #[.int .i64 N, .int .i64 Kd, .int .i64 Sh, .slice a m c])) => (qs_last hE2.out hsub0 (by omega) (by omega)).mono (R' := fun y w3 => y = .returned (.int .i64 0) ∧ Hid (QS w w3 wb qb k u6 (i + 1) xs ((8 * i + 1) :: xs) #[.int .i64 N, .int .i64 Kd, .int .i64 Sh, .slice a m c])) (by
        rintro y w3 ⟨rfl, h3⟩
        exact ⟨rfl, h3⟩)
      have hpu := fun w2 (hE2 : Hid (QS w w2 wb qb k u6 (i + 1) xs xs #[.int .i64 N, .int .i64 Kd, .int .i64 Sh, .slice a m c])) => (qs_push hE2.out hsub0 (by omega) (by omega)).mono (R' := fun y w3 => y = .returned (.int .i64 0) ∧ Hid (QS w w3 wb qb k u6 (i + 1) xs (xs ++ [8 * i + 1]) #[.int .i64 N, .int .i64 Kd, .int .i64 Sh, .slice a m c])) (by
        rintro y w3 ⟨rfl, h3⟩
        exact ⟨rfl, h3⟩)
      simp only [Nat.add_sub_cancel] at hla hpu
      obtain ⟨H, hHH⟩ : ∃ H, 8 * i + 1 = H := ⟨_, rfl⟩
      rw [hHH] at hmk hla hpu
      have HX : Hid (xs.length = i) := hxl
      unfold opMake at hmk
      clear hwn hwk hbg hH hHH hxl
      by_cases him : i < m
      · obtain ⟨g0, o0, b0, rfl, hc0⟩ := hcell i him
        have himz : (i : Int) < (m : Int) := by omega
        have hd2 : decide ((i : Int) < (m : Int)) = true := decide_eq_true himz
        clear hcell
        cases b0
        · go_wp2_with (first | (go_at_call 20; go_must (with_reducible refine hmk.mono ?_); rintro y w2 ⟨g, cap, rfl, q1, q2, q3, q4, hE2⟩; (have q5 := gb_cellN hE2.out.gr hc0)) | (go_at_call 21; go_must (with_reducible refine (hpu _ hE2).mono ?_); rintro y w3 ⟨rfl, hE3⟩; (have hrow := hE3.out.row); rw [HX.out] at hrow; (have hlt3 := hE3.out.wlt)) | (go_at_call 14; go_must (refine (num_any _ _).mono ?_); rintro y w' ⟨rfl, rfl⟩) | (at_builtin; go_must (refine push26 rfl _ _ rfl w.heap.size u6 i (uvs xs) (by rfl) hrow (H : Int) (by rfl) (by omega) (Nat.le_of_lt hlt3) ?_); intro g1 cap1 w4 ho4 hg4 hat4) | fail)
          refine ⟨⟨i + 1, xs ++ [H], rfl, by omega, by simp [HX.out], hE3.out.want hg4 (by rw [uvs_app]; simpa [HX.out] using ho4) (fun g hg => by simp [Value.ownBlock] at hg; subst hg; exact hat4)⟩, by simp [intOf]; omega⟩
        · go_wp2_with (first | (go_at_call 20; go_must (with_reducible refine hmk.mono ?_); rintro y w2 ⟨g, cap, rfl, q1, q2, q3, q4, hE2⟩; (have q5 := gb_cellN hE2.out.gr hc0)) | (go_at_call 22; go_must (with_reducible refine (hla _ hE2).mono ?_); rintro y w3 ⟨rfl, hE3⟩; (have hrow := hE3.out.row); (have hlt3 := hE3.out.wlt)) | (go_at_call 14; go_must (refine (num_any _ _).mono ?_); rintro y w' ⟨rfl, rfl⟩) | (at_builtin; go_must (refine front26 rfl _ _ rfl w.heap.size u6 xs (by rfl) hrow (by rw [HX.out]; omega) (by rfl) H (Nat.le_of_lt hlt3) ?_); intro v4 w4 ho4 hg4 hat4) | fail)
          refine ⟨⟨i + 1, H :: xs, rfl, by omega, by simp [HX.out], hE3.out.want (gb_none _ hg4) ho4 (fun g hg => .inr (hat4 g hg))⟩, by simp [intOf]; omega⟩
      · have himz : ¬ (i : Int) < (m : Int) := by omega
        have hd2 : decide ((i : Int) < (m : Int)) = false := decide_eq_false himz
        clear hcell
        go_wp2_with (first | (go_at_call 20; go_must (with_reducible refine hmk.mono ?_); rintro y w2 ⟨g, cap, rfl, q1, q2, q3, q4, hE2⟩) | (go_at_call 21; go_must (with_reducible refine (hpu _ hE2).mono ?_); rintro y w3 ⟨rfl, hE3⟩; (have hrow := hE3.out.row); rw [HX.out] at hrow; (have hlt3 := hE3.out.wlt)) | (go_at_call 14; go_must (refine (num_any _ _).mono ?_); rintro y w' ⟨rfl, rfl⟩) | (at_builtin; go_must (refine push26 rfl _ _ rfl w.heap.size u6 i (uvs xs) (by rfl) hrow (H : Int) (by rfl) (by omega) (Nat.le_of_lt hlt3) ?_); intro g1 cap1 w4 ho4 hg4 hat4) | fail)
        refine ⟨⟨i + 1, xs ++ [H], rfl, by omega, by simp [HX.out], hE3.out.want hg4 (by rw [uvs_app]; simpa [HX.out] using ho4) (fun g hg => by simp [Value.ownBlock] at hg; subst hg; exact hat4)⟩, by simp [intOf]; omega⟩
    · obtain rfl : i = n := by omega
      clear hcell hwn hwk hbg
      by_cases hn0 : i = 0
      · subst hn0
        have hd0 : decide ((0 : Int) < (0 : Int)) = false := by simp
        obtain ⟨zs, hzs⟩ : ∃ zs : List Nat, zs = xs := ⟨_, rfl⟩
        have hxn : xs = [] := List.eq_nil_of_length_eq_zero hxl
        rw [← hzs] at hE
        have hE2 : Hid (QS w wr wb qb k u6 0 zs [] #[.int .i64 N, .int .i64 Kd, .int .i64 Sh, .slice a m c]) := by rw [hzs, hxn]; rw [hzs, hxn] at hE; exact hE
        clear hE hzs hxn hxl
        obtain ⟨W2, rfl⟩ : ∃ W2, W2 = wr := ⟨wr, rfl⟩
        go_wp2
        go_loopw [11] (fun iv wr => iv = .int .i64 0 ∧ Hid (QS w wr wb qb k u6 0 zs [] #[.int .i64 N, .int .i64 Kd, .int .i64 Sh, .slice a m c])) (fun iv _ => 0)
        case atStart => exact ⟨rfl, hE2⟩
        case round =>
          obtain ⟨rfl, hEt⟩ := hrel
          have htlE := fun (w2 : World) (hE2 : Hid (QS w w2 wb qb k u6 0 zs [] #[.int .i64 N, .int .i64 Kd, .int .i64 Sh, .slice a m c])) => (qs_tail hE2.out).mono (R' := fun y w3 => y = .returned (.tuple #[.int .u64 0, .bool false]) ∧ w3.cell? ⟨wb, 1, none⟩ = some (.pointer (some ⟨qb, 0, none⟩)) ∧ Hid (QS w w3 wb qb k u6 0 zs [] #[.int .i64 N, .int .i64 Kd, .int .i64 Sh, .slice a m c])) (by
            rintro y w3 ⟨rfl, h3⟩
            exact ⟨rfl, h3.qcell, h3⟩)
          have hlnE := fun (w2 : World) (hE2 : Hid (QS w w2 wb qb k u6 0 zs [] #[.int .i64 N, .int .i64 Kd, .int .i64 Sh, .slice a m c])) => (qs_len hE2.out).mono (R' := fun y w3 => y = .returned (.int .i64 0) ∧ Hid (w.grownBy w3 none)) (by
            rintro y w3 ⟨rfl, h3⟩
            exact ⟨rfl, h3.gr⟩)
          have hwE := fun (w3 : World) (hG : Hid (w.grownBy w3 none)) => (wakes_any w3).mono (R' := fun y w4 => y = .returned (.bool true) ∧ Hid (w.grownBy w4 none)) (by
            rintro y w4 ⟨rfl, h4⟩
            exact ⟨rfl, gb_trans hG.out h4⟩)
          have hqE := hEt.out.qcell
          go_wp2_with (first | (go_at_call 27; go_must (with_reducible refine (htlE _ hEt).mono ?_); rintro y w7 ⟨rfl, d7, hE7⟩) | (go_at_call 28; go_must (with_reducible refine (hlnE _ hE7).mono ?_); rintro y w8 ⟨rfl, hE8⟩) | (go_at_call 15; go_must (with_reducible refine (hwE _ hE8).mono ?_); rintro y w9 ⟨rfl, hE9⟩) | fail)
          go_ret
          exact ⟨rfl, hE9.out⟩
      · have hnz : (0 : Int) < (i : Int) := by omega
        have hnz2 : decide ((0 : Int) < (i : Int)) = true := decide_eq_true hnz
        have hd0 : decide ((i : Int) < (i : Int)) = false := by simp
        obtain ⟨j, hj⟩ : ∃ j : Nat, Sh % (i : Int) = j := ⟨(Sh % (i : Int)).toNat, by have := Int.emod_nonneg Sh (b := (i : Int)) (by omega); omega⟩
        have hji : j < i := by have := Int.emod_lt_of_pos Sh hnz; omega
        have hws := fun W => within_any Sh i (by omega) (by omega) W
        rw [hj] at hws
        clear hj
        obtain ⟨C, H, D, hxs, hCl⟩ : ∃ C H D, xs = C ++ H :: D ∧ C.length = j := ⟨xs.take j, xs[j]'(by omega), xs.drop (j + 1), by simp, by simp; omega⟩
        have hrow := hE.out.row
        rw [hxl] at hrow
        obtain ⟨ao, cap, hwv, _, hcap1, hcap2, hao⟩ := row_shape hrow
        obtain ⟨g, rfl⟩ := hao (by omega)
        subst hwv
        have hcl : wr.cell? ⟨g, j, none⟩ = some (.int .u64 (H : Int)) := row_cell hrow _ _ (uvs_get (by rw [hxs, ← hCl]; simp))
        have hq := hE.out.qcell
        have hb2 := hE.out.bx.cell 2
        simp at hb2
        have hjz : (j : Int) < (i : Int) := by omega
        have hsh := (qs_shift hE.out hxs (by omega)).mono (R' := fun y w3 => y = .returned (.int .i64 0) ∧ Hid (QS w w3 wb qb k (.slice (some ⟨g, 0, none⟩) i cap) i xs (C ++ D ++ [H]) #[.int .i64 N, .int .i64 Kd, .int .i64 Sh, .slice a m c])) (by
          rintro y w3 ⟨rfl, h3⟩
          exact ⟨rfl, h3⟩)
        have HX : Hid (xs.length = i ∧ xs = C ++ H :: D ∧ C.length = j) := ⟨hxl, hxs, hCl⟩
        clear hxl hxs hCl
        go_wp2_with (first | (go_at_call 16; go_must (refine (hws _).mono ?_); rintro y w' ⟨rfl, rfl⟩) | (go_at_call 24; go_must (with_reducible refine hsh.mono ?_); rintro y w3 ⟨rfl, hE3⟩) | (go_at_call 14; go_must (refine (num_any _ _).mono ?_); rintro y w' ⟨rfl, rfl⟩) | fail)
        clear hws hsh hal hE1 d0 d1
        obtain ⟨hxl, hxs, hCl⟩ := HX.out
        have s1 : (j : Int) ≤ (cap : Int) := by omega
        have s2 : j ≤ cap := by omega
        have s3 : (j : Int) + 1 ≤ (i : Int) := by omega
        have s4 : j + 1 ≤ i := by omega
        have s5 : j + 1 ≤ cap := by omega
        have hrow3 := hE3.out.row
        rw [hxl] at hrow3
        have hCt : (xs.drop 0).take j = C := by rw [hxs, ← hCl]; simp
        have hDt : (xs.drop (j + 1)).take (i - (j + 1)) = D := by
          rw [hxs, ← hCl]
          have e1 : (C ++ H :: D).drop (C.length + 1) = D := by simp
          rw [e1, List.take_of_length_le]
          have := congrArg List.length hxs
          simp at this
          omega
        have hDl : D.length = i - (j + 1) := by
          have := congrArg List.length hxs
          simp at this
          omega
        have hnC : ∀ W, w3.grownBy W none → ∀ t u, (uvs C)[t]? = some u → W.cell? ((⟨g, 0, none⟩ : Addr).add t) = some u := fun W hf => by
          have := part_cells (xs := xs) (w := W) (g := g) (cap := cap) (B := w.heap.size) (by rw [hxl]; exact row_kept hrow3 hf (by simp)) 0 j (by omega)
          rw [hCt] at this
          exact this
        obtain ⟨ad, hadE, hnD⟩ : ∃ ad : Addr, (if cap = j + 1 then some (⟨g, 0, none⟩ : Addr) else some ⟨g, j + 1, none⟩) = some ad ∧ ∀ W, w3.grownBy W none → ∀ t u, (uvs D)[t]? = some u → W.cell? (ad.add t) = some u := by
          by_cases hcj : cap = j + 1
          · refine ⟨⟨g, 0, none⟩, if_pos hcj, fun W hf t u ht => ?_⟩
            have : D = [] := List.eq_nil_of_length_eq_zero (by omega)
            rw [this] at ht
            simp [uvs] at ht
          · refine ⟨⟨g, j + 1, none⟩, if_neg hcj, fun W hf => ?_⟩
            have := part_cells (xs := xs) (w := W) (g := g) (cap := cap) (B := w.heap.size) (by rw [hxl]; exact row_kept hrow3 hf (by simp)) (j + 1) (i - (j + 1)) (by omega)
            rw [hDt] at this
            exact this
        have hUC : (uvs C).length = j := by rw [uvs_len]; exact hCl
        have hUD : (uvs D).length = i - (j + 1) := by rw [uvs_len]; exact hDl
        have hHX : Hid (xs.length = i ∧ xs = C ++ H :: D ∧ C.length = j ∧ D.length = i - (j + 1)) := ⟨hxl, hxs, hCl, hDl⟩
        clear hxl hxs hCl hDl hrow3 hCt hDt
        have hB := hE3.out.wlt
        have x1 := World.grownBy_alloc w3 (.cells #[] 26) none
        have f1 := gb_drew x1
        have f3 := gb_drew (gb_alloc x1 (.cells #[.int .u64 (H : Int)] 26))
        have f4 := gb_drew (gb_alloc (World.grownBy_alloc w3 (.cells #[.int .u64 (H : Int)] 26) none) (.cells #[] 26))
        have y1 : (w3.alloc (.cells #[] 26)).ownsRow w3.heap.size 26 1 (.slice (some ⟨w3.heap.size, 0, none⟩) 0 0) 0 [] := own_new (us := []) (n := 0) rfl (by unfold maxLen; omega)
        have a1 := row_kept y1 (gb_drew (gb_refl _ none)) (by simp)
        have a3 := row_kept y1 (gb_drew (World.grownBy_alloc _ (.cells #[.int .u64 (H : Int)] 26) none)) (by simp)
        have y4 : ((w3.alloc (.cells #[.int .u64 (H : Int)] 26)).alloc (.cells #[] 26)).ownsRow w3.heap.size 26 1 (.slice (some ⟨w3.heap.size + 1, 0, none⟩) 0 0) 0 [] := by
          have := own_new (w := w3.alloc (.cells #[.int .u64 (H : Int)] 26)) (us := []) (n := 0) rfl (by unfold maxLen; omega)
          have e : (w3.alloc (.cells #[.int .u64 (H : Int)] 26)).heap.size = w3.heap.size + 1 := by simp
          rw [e] at this
          exact row_base this (by omega)
        have a4 := row_kept y4 (gb_drew (gb_refl _ none)) (by simp)
        have c3 : (((w3.alloc (.cells #[] 26)).alloc (.cells #[.int .u64 (H : Int)] 26)).drew).cell? ⟨w3.heap.size + 1, 0, none⟩ = some (.int .u64 (H : Int)) := by
          have := cell_new8 (w3.alloc (.cells #[] 26)) (H : Int)
          have e : (w3.alloc (.cells #[] 26)).heap.size = w3.heap.size + 1 := by simp
          rw [e] at this
          exact gb_cellN (gb_drew (gb_refl _ none)) this
        have c4 : (((w3.alloc (.cells #[.int .u64 (H : Int)] 26)).alloc (.cells #[] 26)).drew).cell? ⟨w3.heap.size, 0, none⟩ = some (.int .u64 (H : Int)) := gb_cellN (gb_drew (World.grownBy_alloc _ _ none)) (cell_new8 w3 (H : Int))
        have hwr : IntKind.i64.wrap ((j : Int) + 1) = (j : Int) + 1 := by rw [IntKind.wrap_i64]; omega
        have htn : ((j : Int) + 1).toNat = j + 1 := by omega
        have hj0 : 0 ≤ (j : Int) + 1 := by omega
        have e6 : j + (i - (j + 1)) + 1 = i := by omega
        have hFin : ∀ g6 cap6 w6, World.ownsRow w6 w3.heap.size 26 1 (.slice (some ⟨g6, 0, none⟩) i cap6) i (uvs C ++ uvs D ++ [.int .u64 (H : Int)]) → w3.grownBy w6 none → Hid (QS w w6 wb qb k (.slice (some ⟨g6, 0, none⟩) i cap6) i (C ++ D ++ [H]) (C ++ D ++ [H]) #[.int .i64 N, .int .i64 Kd, .int .i64 Sh, .slice a m c]) := fun g6 cap6 w6 ho6 hG6 => by
          obtain ⟨hxl, hxs, hCl, hDl⟩ := hHX.out
          have hl : (C ++ D ++ [H]).length = i := by simp; omega
          refine hE3.out.want (gb_none _ hG6) ?_ (fun g hg => ?_)
          · rw [hl]
            have := row_base ho6 (Nat.le_of_lt hB)
            simpa [uvs] using this
          · exact .inr (ho6.lt g hg).1
        go_region_law ((first | (refine step_app26 rfl (.tmp 109) (.tmp 112) rfl w3.heap.size _ _ _ [] rfl a1 ⟨g, 0, none⟩ j cap (uvs C) rfl hUC (hnC _ f1) (uvs_one C) (by omega) f1.size ?_; intro g4 cap4 w4 ho4 hg4 hat4; rw [Nat.zero_add, List.nil_append] at ho4; (have hG4 : w3.grownBy w4 none := gb_mine f1 hg4 (Nat.le_refl _))) | (refine step_app26 rfl (.tmp 109) (.tmp 112) rfl w3.heap.size _ _ _ [] rfl a3 ⟨g, 0, none⟩ j cap (uvs C) rfl hUC (hnC _ f3) (uvs_one C) (by omega) f3.size ?_; intro g4 cap4 w4 ho4 hg4 hat4; rw [Nat.zero_add, List.nil_append] at ho4; (have hG4 : w3.grownBy w4 none := gb_mine f3 hg4 (Nat.le_refl _)); (have hc4 := gb_cell hg4 c3 (by simp)); (have hne4 : ¬ (w3.heap.size + 1 = g4) := by simp at hat4; omega)) | (refine step_app26 rfl (.tmp 109) (.tmp 112) rfl w3.heap.size _ _ _ [] rfl a4 ⟨g, 0, none⟩ j cap (uvs C) rfl hUC (hnC _ f4) (uvs_one C) (by omega) f4.size ?_; intro g4 cap4 w4 ho4 hg4 hat4; rw [Nat.zero_add, List.nil_append] at ho4; (have hG4 : w3.grownBy w4 none := gb_mine f4 hg4 (by omega)); (have hc4 := gb_cell hg4 c4 (by simp)); (have hne4 : ¬ (w3.heap.size = g4) := by simp at hat4; omega)) | (refine step_app26 rfl (.tmp 113) (.tmp 117) rfl w3.heap.size g4 j cap4 (uvs C) rfl ho4 ad (i - (j + 1)) _ (uvs D) rfl hUD (hnD _ hG4) (uvs_one D) (by omega) hG4.size ?_; intro g5 cap5 w5 ho5 hg5 hat5; (have hG5 : w3.grownBy w5 none := gb_mine hG4 hg5 (ho4.lt g4 rfl).1); (have hc5 := gb_cell hg5 hc4 (by simpa using hne4))) | (refine step_app26 rfl (.tmp 113) (.tmp 117) rfl w3.heap.size g4 j cap4 (uvs C) rfl (row_kept ho4 (World.grownBy_alloc w4 (.cells #[.int .u64 (H : Int)] 26) none) (by simp)) ad (i - (j + 1)) _ (uvs D) rfl hUD (hnD _ (gb_alloc hG4 (.cells #[.int .u64 (H : Int)] 26))) (uvs_one D) (by omega) (gb_alloc hG4 (.cells #[.int .u64 (H : Int)] 26)).size ?_; intro g5 cap5 w5 ho5 hg5 hat5; (have hG5 : w3.grownBy w5 none := gb_mine (gb_alloc hG4 (.cells #[.int .u64 (H : Int)] 26)) hg5 (ho4.lt g4 rfl).1); (have hc5 := gb_cell hg5 (cell_new8 w4 (H : Int)) (by have := (ho4.lt g4 rfl).2; simp; omega))) | (refine step_app26 rfl (.tmp 113) (.tmp 117) rfl w3.heap.size g4 j cap4 (uvs C) rfl ho4 ad (i - (j + 1)) _ (uvs D) rfl hUD (hnD _ hG4) (uvs_one D) (by omega) hG4.size ?_; intro g5 cap5 w5 ho5 hg5 hat5; (have hG5 : w3.grownBy w5 none := gb_mine hG4 hg5 (ho4.lt g4 rfl).1)) | (refine step_app26 rfl (.tmp 118) (.tmp 120) rfl w3.heap.size g5 (j + (i - (j + 1))) cap5 (uvs C ++ uvs D) rfl ho5 _ 1 1 [.int .u64 (H : Int)] rfl rfl (news1 hc5) (uvs_one [H]) (by omega) hG5.size ?_; intro g6 cap6 w6 ho6 hg6 hat6; rw [e6] at ho6; (have hG6 : w3.grownBy w6 none := gb_mine hG5 hg6 (ho5.lt g5 rfl).1); (have hQ6 := hFin g6 cap6 w6 ho6 hG6)) | (refine step_app26 rfl (.tmp 118) (.tmp 120) rfl w3.heap.size g5 (j + (i - (j + 1))) cap5 (uvs C ++ uvs D) rfl (row_kept ho5 (World.grownBy_alloc w5 (.cells #[.int .u64 (H : Int)] 26) none) (by simp)) _ 1 1 [.int .u64 (H : Int)] rfl rfl (news1 (cell_new8 w5 (H : Int))) (uvs_one [H]) (by omega) (gb_alloc hG5 (.cells #[.int .u64 (H : Int)] 26)).size ?_; intro g6 cap6 w6 ho6 hg6 hat6; rw [e6] at ho6; (have hG6 : w3.grownBy w6 none := gb_mine (gb_alloc hG5 (.cells #[.int .u64 (H : Int)] 26)) hg6 (ho5.lt g5 rfl).1); (have hQ6 := hFin g6 cap6 w6 ho6 hG6))))
        all_goals
          obtain ⟨zs, hzs⟩ : ∃ zs, zs = C ++ D ++ [H] := ⟨_, rfl⟩
          rw [← hzs] at hQ6
          have hzl : Hid (zs.length = i) := by
            obtain ⟨hxl, hxs, hCl, hDl⟩ := hHX.out
            rw [hzs]
            show (C ++ D ++ [H]).length = i
            simp; omega
          clear hzs hFin hnC hnD hadE a1 a3 a4 y1 y4 f1 f3 f4 x1 c3 c4 hUC hUD hE hrow hcl hq hb2 hao
          obtain ⟨W2, rfl⟩ : ∃ W2, W2 = wr := ⟨wr, rfl⟩
          go_wp2
          go_loopw [11] (fun iv wr => ∃ (t : Nat), iv = .int .i64 t ∧ t ≤ i ∧ Hid (QS w wr wb qb k (.slice (some ⟨g6, 0, none⟩) i cap6) i zs (zs.drop t) #[.int .i64 N, .int .i64 Kd, .int .i64 Sh, .slice a m c])) (fun iv _ => i - (intOf iv).toNat)
          case atStart => exact ⟨0, rfl, by omega, hQ6⟩
          case round =>
            obtain ⟨t, rfl, ht, hEt⟩ := hrel
            by_cases hti : t < i
            · have htz : (t : Int) < (i : Int) := by omega
              have hdt : decide ((t : Int) < (i : Int)) = true := decide_eq_true htz
              have hrt := hEt.out.row
              rw [hzl.out] at hrt
              obtain ⟨h, hh, hdr⟩ : ∃ h, zs[t]? = some h ∧ zs.drop t = h :: zs.drop (t + 1) := ⟨zs[t]'(by have := hzl.out; omega), by simp, by rw [List.drop_eq_getElem_cons]⟩
              have hh0 : ¬ h = 0 := by
                obtain ⟨l, _, e⟩ := hs_mem.1 (hEt.out.sub h (by rw [hdr]; simp))
                omega
              have hhz : ¬ (h : Int) = 0 := by omega
              have hcl := row_cell hrt t _ (uvs_get hh)
              have hqt := hEt.out.qcell
              have htl := (qs_tail hEt.out).mono (R' := fun y w3 => y = .returned (.tuple #[.int .u64 h, .bool true]) ∧ w3.cell? ⟨g6, t, none⟩ = some (.int .u64 h) ∧ w3.cell? ⟨wb, 1, none⟩ = some (.pointer (some ⟨qb, 0, none⟩)) ∧ Hid (QS w w3 wb qb k (.slice (some ⟨g6, 0, none⟩) i cap6) i zs (zs.drop t) #[.int .i64 N, .int .i64 Kd, .int .i64 Sh, .slice a m c])) (by
                rintro y w3 ⟨rfl, h3⟩
                have hr3 := h3.row
                rw [hzl.out] at hr3
                refine ⟨?_, row_cell hr3 t _ (uvs_get hh), h3.qcell, h3⟩
                rw [hdr]
                simp [hh0])
              have hln := fun (w3 : World) (hE3 : Hid (QS w w3 wb qb k (.slice (some ⟨g6, 0, none⟩) i cap6) i zs (zs.drop t) #[.int .i64 N, .int .i64 Kd, .int .i64 Sh, .slice a m c])) => (qs_len hE3.out).mono (R' := fun y w4 => y = .returned (.int .i64 ((i : Int) - (t : Int))) ∧ w4.cell? ⟨wb, 1, none⟩ = some (.pointer (some ⟨qb, 0, none⟩)) ∧ Hid (QS w w4 wb qb k (.slice (some ⟨g6, 0, none⟩) i cap6) i zs (zs.drop t) #[.int .i64 N, .int .i64 Kd, .int .i64 Sh, .slice a m c])) (by
                rintro y w4 ⟨rfl, h4⟩
                refine ⟨?_, h4.qcell, h4⟩
                rw [List.length_drop, hzl.out]
                congr 2
                omega)
              have hdp := fun (w4 : World) (hE4 : Hid (QS w w4 wb qb k (.slice (some ⟨g6, 0, none⟩) i cap6) i zs (zs.drop t) #[.int .i64 N, .int .i64 Kd, .int .i64 Sh, .slice a m c])) => (qs_drop hE4.out hdr).mono (R' := fun y w5 => y = .returned (.int .i64 0) ∧ Hid (QS w w5 wb qb k (.slice (some ⟨g6, 0, none⟩) i cap6) i zs (zs.drop (t + 1)) #[.int .i64 N, .int .i64 Kd, .int .i64 Sh, .slice a m c])) (by
                rintro y w5 ⟨rfl, h5⟩
                exact ⟨rfl, h5⟩)
              clear hdr hrt hh
              go_wp2_with (first | (go_at_call 27; go_must (with_reducible refine htl.mono ?_); rintro y w7 ⟨rfl, r7, d7, hE7⟩) | (go_at_call 28; go_must (with_reducible refine (hln _ hE7).mono ?_); rintro y w8 ⟨rfl, d8, hE8⟩) | (go_at_call 23; go_must (with_reducible refine (hdp _ hE8).mono ?_); rintro y w9 ⟨rfl, hE9⟩) | (go_at_call 14; go_must (refine (num_any _ _).mono ?_); rintro y w' ⟨rfl, rfl⟩) | fail)
              refine ⟨⟨t + 1, rfl, by omega, hE9⟩, by simp [intOf]; omega⟩
            · obtain rfl : t = i := by omega
              have e0 : zs.drop t = [] := List.drop_eq_nil_of_le (by have := hzl.out; omega)
              rw [e0] at hEt
              have htlE := fun (w2 : World) (hE2 : Hid (QS w w2 wb qb k (.slice (some ⟨g6, 0, none⟩) t cap6) t zs [] #[.int .i64 N, .int .i64 Kd, .int .i64 Sh, .slice a m c])) => (qs_tail hE2.out).mono (R' := fun y w3 => y = .returned (.tuple #[.int .u64 0, .bool false]) ∧ w3.cell? ⟨wb, 1, none⟩ = some (.pointer (some ⟨qb, 0, none⟩)) ∧ Hid (QS w w3 wb qb k (.slice (some ⟨g6, 0, none⟩) t cap6) t zs [] #[.int .i64 N, .int .i64 Kd, .int .i64 Sh, .slice a m c])) (by
                rintro y w3 ⟨rfl, h3⟩
                exact ⟨rfl, h3.qcell, h3⟩)
              have hlnE := fun (w2 : World) (hE2 : Hid (QS w w2 wb qb k (.slice (some ⟨g6, 0, none⟩) t cap6) t zs [] #[.int .i64 N, .int .i64 Kd, .int .i64 Sh, .slice a m c])) => (qs_len hE2.out).mono (R' := fun y w3 => y = .returned (.int .i64 0) ∧ Hid (w.grownBy w3 none)) (by
                rintro y w3 ⟨rfl, h3⟩
                exact ⟨rfl, h3.gr⟩)
              have hwE := fun (w3 : World) (hG : Hid (w.grownBy w3 none)) => (wakes_any w3).mono (R' := fun y w4 => y = .returned (.bool true) ∧ Hid (w.grownBy w4 none)) (by
                rintro y w4 ⟨rfl, h4⟩
                exact ⟨rfl, gb_trans hG.out h4⟩)
              have hqE := hEt.out.qcell
              go_wp2_with (first | (go_at_call 27; go_must (with_reducible refine (htlE _ hEt).mono ?_); rintro y w7 ⟨rfl, d7, hE7⟩) | (go_at_call 28; go_must (with_reducible refine (hlnE _ hE7).mono ?_); rintro y w8 ⟨rfl, hE8⟩) | (go_at_call 15; go_must (with_reducible refine (hwE _ hE8).mono ?_); rintro y w9 ⟨rfl, hE9⟩) | fail)
              go_ret
              exact ⟨rfl, hE9.out⟩
end Go.Proofs.YtijpploeofdhbaaGreat
