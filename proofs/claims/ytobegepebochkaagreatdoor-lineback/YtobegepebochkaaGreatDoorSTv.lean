import Derived.Deep.LoopGhost
import Derived.Test.YtobegepebochkaaGreatDoorSPas
set_option linter.unusedVariables false
set_option linter.unusedSimpArgs false
namespace Go.Proofs.YtobegepebochkaaGreatDoor
open Go.RowKit Go.Maps
def pcsF : Nat → Bs → List Int → List Bs
  | 0, r, _ => [r]
  | _ + 1, r, [] => [r]
  | f + 1, r, c :: cs => if r = [] then [r] else r.take (c % 41).toNat :: pcsF f (r.drop (c % 41).toNat) cs
abbrev pcs (r : Bs) (cs : List Int) : List Bs := pcsF 400 r cs
theorem pcsF_flat : ∀ (f : Nat) (r : Bs) (cs : List Int), (pcsF f r cs).flatten = r
  | 0, r, _ => by simp [pcsF]
  | f + 1, r, [] => by simp [pcsF]
  | f + 1, r, c :: cs => by
    simp only [pcsF]
    split
    · simp
    · simp only [List.flatten_cons]
      rw [pcsF_flat f, List.take_append_drop]
theorem pcsF_len : ∀ (f : Nat) (r : Bs) (cs : List Int), (pcsF f r cs).length ≤ f + 1
  | 0, r, _ => by simp [pcsF]
  | f + 1, r, [] => by simp [pcsF]
  | f + 1, r, c :: cs => by
    simp only [pcsF]
    split
    · simp
    · have := pcsF_len f (r.drop (c % 41).toNat) cs
      simp; omega
theorem pcsF_end {raw : Bs} {cs : List Int} {at' k : Nat} (h : k = cs.length ∨ at' = raw.length ∨ k = 400) : pcsF (400 - k) (raw.drop at') (cs.drop k) = [raw.drop at'] := by
  rcases h with rfl | rfl | rfl
  · rw [List.drop_length]
    cases 400 - cs.length <;> rfl
  · rw [List.drop_length]
    cases 400 - k with
    | zero => rfl
    | succ f => cases cs.drop k <;> simp [pcsF]
  · rfl
theorem tmod_add (i n : Int) (h : 0 < n) : (i.tmod n + n) % n = i % n := by
  rw [Int.add_emod_right, Int.tmod_eq_emod]
  split
  · simp
  · have : ((n.natAbs : Nat) : Int) = n := by omega
    rw [this, Int.sub_emod_right, Int.emod_emod]
def Ci (w : World) (v : Value) (cs : List Int) : Prop := ∃ a c, v = .slice a cs.length c ∧ (0 < cs.length → ∃ g o, a = some ⟨g, o, none⟩ ∧ g < w.heap.size ∧ ∀ i x, cs[i]? = some x → w.cell? ⟨g, o + i, none⟩ = some (.int .i64 x))
theorem Ci.kept {w w' : World} {v : Value} {cs : List Int} (h : Ci w v cs) (hf : w.grownBy w' none) : Ci w' v cs := by
  obtain ⟨a, c, e, h⟩ := h
  refine ⟨a, c, e, fun h0 => ?_⟩
  obtain ⟨g, o, e1, h1, h2⟩ := h h0
  exact ⟨g, o, e1, Nat.lt_of_lt_of_le h1 hf.size, fun i x hi => gb_cellN hf (h2 i x hi)⟩
def Ps (w : World) (B : Nat) (vs : List Value) (ps : List Bs) : Prop := vs.length = ps.length ∧ ∀ (i : Nat) (p : Bs) (x : Value), ps[i]? = some p → vs[i]? = some x → w.ownsRow B 5 1 x p.length (p.map b8)
theorem Ps.kept {w w' : World} {B : Nat} {vs : List Value} {ps : List Bs} (h : Ps w B vs ps) {row : Option Nat} (hf : w.grownBy w' row) (hr : ∀ k, row = some k → ∀ cur, w.heap[k]? ≠ some (.cells cur 5 (0, 0))) : Ps w' B vs ps :=
  ⟨h.1, fun i p x hp hx => row_kept (h.2 i p x hp hx) hf (fun k hk e => by
    obtain ⟨cur, hc⟩ := row_block (h.2 i p x hp hx) k hk
    exact hr k e.symm cur hc)⟩
theorem Ps.kept0 {w w' : World} {B : Nat} {vs : List Value} {ps : List Bs} (h : Ps w B vs ps) (hf : w.grownBy w' none) : Ps w' B vs ps := h.kept hf (fun k e => by cases e)
theorem Ps.nil (w : World) (B : Nat) : Ps w B [] [] := ⟨rfl, fun i p x h => by simp at h⟩
theorem Ps.snoc {w : World} {B : Nat} {vs : List Value} {ps : List Bs} (h : Ps w B vs ps) {p : Bs} {x : Value} (hx : w.ownsRow B 5 1 x p.length (p.map b8)) : Ps w B (vs ++ [x]) (ps ++ [p]) := by
  refine ⟨by simp [h.1], fun i p' x' hp hx' => ?_⟩
  rcases Nat.lt_trichotomy i ps.length with hi | hi | hi
  · rw [List.getElem?_append_left hi] at hp
    rw [List.getElem?_append_left (by rw [h.1]; exact hi)] at hx'
    exact h.2 i p' x' hp hx'
  · subst hi
    simp at hp
    rw [← h.1] at hx'
    simp at hx'
    subst hp hx'
    exact hx
  · have := (List.getElem?_eq_some_iff.1 hp).1
    simp at this
    omega
theorem ne38 {w : World} {B n : Nat} {v : Value} {xs : List Value} (h : w.ownsRow B 38 1 v n xs) : ∀ k, v.ownBlock = some k → ∀ cur, w.heap[k]? ≠ some (.cells cur 5 (0, 0)) := by
  intro k hk cur hc
  obtain ⟨c2, h2⟩ := row_block h k hk
  rw [hc] at h2
  injection h2 with h2
  injection h2 with _ h2
  cases h2
section
variable {w : World} {ops : Array Oper} {rest : List Oper} {o : Oper} {a : Act} {Q : Exit → Act → World → Prop}
theorem push38 (hgd : o.guard = none) (s x : Operand) (ho : o.op = .call { callee := .builtin .append, args := #[s, x], argTypes := #[22, 22] })
    (B : Nat) (v : Value) (n : Nat) (xs : List Value) (hs : a.eval s = v) (hown : w.ownsRow B 38 1 v n xs) (ua : Option Addr) (un uc : Nat) (hx : a.eval x = .slice (some ⟨w.heap.size, 0, none⟩) 1 1) (hn : n ≤ 100000000000) (hB : B ≤ w.heap.size)
    (h : ∀ g cap w', w'.ownsRow B 38 1 (.slice (some ⟨g, 0, none⟩) (n + 1) cap) (n + 1) (xs ++ [.slice ua un uc]) → w.grownBy w' v.ownBlock → (v.ownBlock = some g ∨ w.heap.size ≤ g) → wpList Tryz.prog ops Q rest (a.put o.dst (.slice (some ⟨g, 0, none⟩) (n + 1) cap)) w') : wpList Tryz.prog ops Q (o :: rest) a (w.alloc (.cells #[.slice ua un uc] 38)) := by
  obtain ⟨i0, hi, hz0, hz1, hz2⟩ := info_parts Tryz.info38
  exact wpList_pushN hgd s x 22 ho 38 i0 _ 1 24 Tryz.underlying22 hi hz0 hz1 hz2 rfl (by omega) (by omega) B v n xs hs hown [.slice ua un uc] rfl (by simp [Value.oneCell']) hx hn hB h
end
set_option maxRecDepth 100000 in
set_option maxHeartbeats 4000000 in
theorem within_94 (i : Int) (w : World) : Calls Tryz.prog 94 #[.int .i64 i, .int .i64 41] w fun e w' => e = .returned (.int .i64 (i % 41)) ∧ w' = w := by
  obtain ⟨r, hr⟩ : ∃ r, i.tmod 41 = r := ⟨_, rfl⟩
  have h3 : -41 < r := by rw [← hr]; exact Int.lt_tmod_of_pos _ (by omega)
  have h4 : r < 41 := by rw [← hr]; exact Int.tmod_lt_of_pos _ (by omega)
  have h5 : Hid ((r + 41) % 41 = i % 41) := by rw [← hr]; exact tmod_add i 41 (by omega)
  go_enter Tryz.func94, Tryz.ntmps94
  go_wp2
  go_ret
  refine ⟨?_, rfl⟩
  rw [← h5.out]
  rfl
structure PcI (w : World) (raw : Bs) (cs : List Int) (at' k : Nat) (v : Value) (wr : World) (vs : List Value) (ps : List Bs) : Prop where
  hat : at' ≤ raw.length
  hk : k ≤ cs.length ∧ k ≤ 400
  len : ps.length = k
  row : wr.ownsRow w.heap.size 38 1 v ps.length vs
  all : Ps wr w.heap.size vs ps
  run : pcs raw cs = ps ++ pcsF (400 - k) (raw.drop at') (cs.drop k)
  gb : w.grownBy wr none
theorem PcI.push {w : World} {raw : Bs} {cs : List Int} {at' k : Nat} {v : Value} {wr w2 w3 : World} {vs : List Value} {ps : List Bs} (h : PcI w raw cs at' k v wr vs ps) {p : Bs} {x : Value} (hx : w2.ownsRow wr.heap.size 5 1 x p.length (p.map b8)) (h2 : wr.grownBy w2 none) {v' : Value} (h3 : w2.grownBy w3 v.ownBlock) (r3 : w3.ownsRow w.heap.size 38 1 v' (ps.length + 1) (vs ++ [x])) :
    w3.ownsRow w.heap.size 38 1 v' (ps ++ [p]).length (vs ++ [x]) ∧ Ps w3 w.heap.size (vs ++ [x]) (ps ++ [p]) ∧ w.grownBy w3 none := by
  have r2 := row_kept h.row h2 (by simp)
  refine ⟨by simpa using r3, ?_, ?_⟩
  · exact ((h.all.kept0 h2).snoc (row_base hx h.gb.size)).kept h3 (ne38 r2)
  · exact gb_far (gb_trans h.gb h2) h3 (fun i hi => (World.ownsRow.lt h.row i hi).1) (Nat.le_refl _)
set_option maxRecDepth 100000 in
set_option maxHeartbeats 4000000 in
theorem pieces_49 {w : World} {X : Nat → Prop} {rv cv : Value} {raw : Bs} {cs : List Int} (hr : Ck w X rv raw) (hc : Ci w cv cs) (hl : raw.length ≤ 1099511627776) (hl2 : cs.length ≤ 9223372036854775807) :
    Calls Tryz.prog 49 #[rv, cv] w fun e w' => ∃ v vs, e = .returned v ∧ w'.ownsRow w.heap.size 38 1 v (pcs raw cs).length vs ∧ Ps w' w.heap.size vs (pcs raw cs) ∧ w.grownBy w' none := by
  obtain ⟨ra, rn, rc, rfl, rfl⟩ := hr.slice
  obtain ⟨ca, cc, rfl, hcc⟩ := id hc
  go_enter Tryz.func49, Tryz.ntmps49
  go_wp2
  go_loopg [5, 6, 7, 8] 400 (fun gk x5 x6 x7 x8 wr => ∃ at' k vs ps, gk + k = 400 ∧ x6 = .int .i64 ((at' : Nat) : Int) ∧ x7 = .int .i64 ((k : Nat) : Int) ∧ PcI w raw cs at' k x5 wr vs ps)
  case atStart => exact ⟨0, 0, [], [], rfl, rfl, rfl, ⟨Nat.zero_le _, ⟨Nat.zero_le _, Nat.zero_le _⟩, rfl, World.ownsRow_nil _ _ _ _, Ps.nil _ _, by simp, gb_refl _ _⟩⟩
  case round =>
    obtain ⟨at', k, vs, ps, hgk, rfl, rfl, hI⟩ := hrel
    obtain ⟨oa, oc, rfl, -, -, -, -⟩ := row_shape hI.row
    have hpl : ps.length ≤ 400 := by have := hI.len; have := hI.hk; omega
    have hat := hI.hat
    obtain ⟨hk1, hk2⟩ := hI.hk
    have hend : ∀ (w2 w3 : World) (x v' : Value), k = cs.length ∨ at' = raw.length ∨ k = 400 → w2.ownsRow wr.heap.size 5 1 x (raw.drop at').length ((raw.drop at').map b8) → wr.grownBy w2 none → w2.grownBy w3 (Value.slice oa ps.length oc).ownBlock → w3.ownsRow w.heap.size 38 1 v' (ps.length + 1) (vs ++ [x]) → ∃ v vs, Ending.returned v' = .returned v ∧ w3.ownsRow w.heap.size 38 1 v (pcs raw cs).length vs ∧ Ps w3 w.heap.size vs (pcs raw cs) ∧ w.grownBy w3 none := by
      intro w2 w3 x v' hc h1 h2 h3 h4
      have hr := hI.run
      have e : pcsF (400 - k) (raw.drop at') (cs.drop k) = [raw.drop at'] := pcsF_end hc
      rw [e] at hr
      rw [hr]
      exact ⟨v', vs ++ [x], rfl, hI.push h1 h2 h3 h4⟩
    have hdr : Ck wr X (.slice ra raw.length rc) raw := hr.kp (Kp.of (F := X) hI.gb) (fun _ _ h => h) (fun _ _ h => h)
    by_cases c1 : k = cs.length
    · have hend1 := fun w2 w3 x v' => hend w2 w3 x v' (.inl c1)
      have t1 : decide (k < cs.length) = false := decide_eq_false (by omega)
      clear hend c1
      go_wp2_with (first | (go_at_call 94; with_reducible refine (within_94 _ _).mono ?_; rintro e w9 ⟨rfl, rfl⟩) | (go_at_call 54; first | (with_reducible refine (copy_54 (hdr.dropA at' hat) (by rw [List.length_drop]; omega)).mono ?_; rintro e w2 ⟨x, rfl, hx, g2⟩; (obtain ⟨xa, xc, rfl, -, -, -, -⟩ := row_shape hx); (have r2 := row_kept hI.row g2 (by simp))) | (with_reducible refine (copy_54 (hdr.dropB0 at' hat (by assumption)) (by rw [List.length_drop]; omega)).mono ?_; rintro e w2 ⟨x, rfl, hx, g2⟩; (obtain ⟨xa, xc, rfl, -, -, -, -⟩ := row_shape hx); (have r2 := row_kept hI.row g2 (by simp)))) | (at_builtin; go_must (refine push38 rfl _ _ rfl w.heap.size _ ps.length vs (by rfl) r2 xa _ xc (by rfl) (by omega) (Nat.le_trans hI.gb.size g2.size) ?_); intro g3 cap w3 r3 g3' _))
      all_goals (go_ret; exact hend1 _ _ _ _ hx g2 g3' (by simpa using r3))
    · have t1 : decide (k < cs.length) = true := decide_eq_true (by omega)
      by_cases c2 : at' = raw.length
      · have hend1 := fun w2 w3 x v' => hend w2 w3 x v' (.inr (.inl c2))
        have t2 : decide (at' < raw.length) = false := decide_eq_false (by omega)
        clear hend c2
        go_wp2_with (first | (go_at_call 94; with_reducible refine (within_94 _ _).mono ?_; rintro e w9 ⟨rfl, rfl⟩) | (go_at_call 54; first | (with_reducible refine (copy_54 (hdr.dropA at' hat) (by rw [List.length_drop]; omega)).mono ?_; rintro e w2 ⟨x, rfl, hx, g2⟩; (obtain ⟨xa, xc, rfl, -, -, -, -⟩ := row_shape hx); (have r2 := row_kept hI.row g2 (by simp))) | (with_reducible refine (copy_54 (hdr.dropB0 at' hat (by assumption)) (by rw [List.length_drop]; omega)).mono ?_; rintro e w2 ⟨x, rfl, hx, g2⟩; (obtain ⟨xa, xc, rfl, -, -, -, -⟩ := row_shape hx); (have r2 := row_kept hI.row g2 (by simp)))) | (at_builtin; go_must (refine push38 rfl _ _ rfl w.heap.size _ ps.length vs (by rfl) r2 xa _ xc (by rfl) (by omega) (Nat.le_trans hI.gb.size g2.size) ?_); intro g3 cap w3 r3 g3' _))
        all_goals (go_ret; exact hend1 _ _ _ _ hx g2 g3' (by simpa using r3))
      · have t2 : decide (at' < raw.length) = true := decide_eq_true (by omega)
        by_cases c3 : k = 400
        · have hend1 := fun w2 w3 x v' => hend w2 w3 x v' (.inr (.inr c3))
          have t3 : decide ((k : Int) < 400) = false := decide_eq_false (by omega)
          clear hend c3
          go_wp2_with (first | (go_at_call 94; with_reducible refine (within_94 _ _).mono ?_; rintro e w9 ⟨rfl, rfl⟩) | (go_at_call 54; first | (with_reducible refine (copy_54 (hdr.dropA at' hat) (by rw [List.length_drop]; omega)).mono ?_; rintro e w2 ⟨x, rfl, hx, g2⟩; (obtain ⟨xa, xc, rfl, -, -, -, -⟩ := row_shape hx); (have r2 := row_kept hI.row g2 (by simp))) | (with_reducible refine (copy_54 (hdr.dropB0 at' hat (by assumption)) (by rw [List.length_drop]; omega)).mono ?_; rintro e w2 ⟨x, rfl, hx, g2⟩; (obtain ⟨xa, xc, rfl, -, -, -, -⟩ := row_shape hx); (have r2 := row_kept hI.row g2 (by simp)))) | (at_builtin; go_must (refine push38 rfl _ _ rfl w.heap.size _ ps.length vs (by rfl) r2 xa _ xc (by rfl) (by omega) (Nat.le_trans hI.gb.size g2.size) ?_); intro g3 cap w3 r3 g3' _))
          all_goals (go_ret; exact hend1 _ _ _ _ hx g2 g3' (by simpa using r3))
        · have t3 : decide ((k : Int) < 400) = true := decide_eq_true (by omega)
          clear hend
          obtain ⟨cg, co, rfl, hcg, hcc2⟩ := hcc (by omega)
          obtain ⟨y, hy⟩ : ∃ y, cs[k]? = some y := ⟨_, List.getElem?_eq_getElem (by omega)⟩
          have hyc := gb_cellN hI.gb (hcc2 k y hy)
          obtain ⟨n, hn⟩ : ∃ n : Nat, y % 41 = (n : Int) := ⟨(y % 41).toNat, by omega⟩
          have hlt : k < cs.length := by omega
          have hlt2 : at' < raw.length := by omega
          have hlt3 : k < 400 := by omega
          clear c1 c2 c3
          obtain ⟨R, hR⟩ : ∃ R, raw.length = at' + R := ⟨raw.length - at', by omega⟩
          have hrc : raw.length ≤ rc := by
            obtain ⟨_, _, _, e, h2, _⟩ := hdr.by (by omega)
            injection e with _ _ e
            omega
          have e1 : IntKind.i64.wrap ((raw.length : Int) - (at' : Int)) = (R : Int) := by rw [IntKind.wrap_i64]; omega
          have hnx : ∀ (N : Nat) (w2 w3 : World) (x v' : Value), N = min n R → w2.ownsRow wr.heap.size 5 1 x ((raw.drop at').take N).length (((raw.drop at').take N).map b8) → wr.grownBy w2 none → w2.grownBy w3 (Value.slice oa ps.length oc).ownBlock → w3.ownsRow w.heap.size 38 1 v' (ps.length + 1) (vs ++ [x]) → ∃ at'' k' vs' ps', gk - 1 + k' = 400 ∧ Value.int .i64 ((at' : Int) + (N : Int)) = .int .i64 ((at'' : Nat) : Int) ∧ Value.int .i64 ((k : Int) + 1) = .int .i64 ((k' : Nat) : Int) ∧ PcI w raw cs at'' k' v' w3 vs' ps' := by
            intro N w2 w3 x v' hN h1 h2 h3 h4
            obtain ⟨p1, p2, p3⟩ := hI.push h1 h2 h3 h4
            refine ⟨at' + N, k + 1, _, _, by omega, rfl, rfl, ⟨by omega, by omega, by simp [hI.len], p1, p2, ?_, p3⟩⟩
            rw [hI.run]
            have e1 : 400 - k = (400 - (k + 1)) + 1 := by omega
            have e2 : cs.drop k = y :: cs.drop (k + 1) := by
              rw [List.drop_eq_getElem_cons hlt]
              rw [List.getElem?_eq_getElem hlt] at hy
              injection hy with hy
              rw [hy]
            have e3 : raw.drop at' ≠ [] := by
              intro e
              have := congrArg List.length e
              rw [List.length_drop] at this
              simp at this
              omega
            rw [e1, e2]
            simp only [pcsF, if_neg e3, hn, Int.toNat_natCast]
            have e4 : (raw.drop at').take n = (raw.drop at').take N := by
              rw [hN, List.take_eq_take_min (i := n), List.length_drop]
              congr 1
              omega
            have e5 : (raw.drop at').drop n = raw.drop (at' + N) := by
              rw [List.drop_drop]
              rcases Nat.le_total n R with h | h
              · congr 1; omega
              · rw [List.drop_of_length_le (by omega), List.drop_of_length_le (by omega)]
            rw [e4, e5]
            simp
          have hgk1 : gk - 1 < gk := by omega
          have A : Aside (raw.length = at' + R ∧ y % 41 = (n : Int)) := ⟨hR, hn⟩
          have h94 : ∀ W, Calls Tryz.prog 94 #[.int .i64 y, .int .i64 41] W fun e w' => e = .returned (.int .i64 (n : Int)) ∧ w' = W := fun W => by have := within_94 y W; rw [hn] at this; exact this
          have hr2 := hdr
          by_cases c4 : n ≤ R
          · have t4 : decide ((R : Int) < (n : Int)) = false := decide_eq_false (by omega)
            have b4 : at' + n ≤ raw.length := by omega
            have e2 : IntKind.i64.wrap ((at' : Int) + (n : Int)) = ((at' + n : Nat) : Int) := by rw [IntKind.wrap_i64]; omega
            have e3 : IntKind.i64.wrap ((k : Int) + 1) = ((k + 1 : Nat) : Int) := by rw [IntKind.wrap_i64]; omega
            have d1 : at' + n ≤ rc := by omega
            have hnx1 := fun w2 w3 x v' => hnx n w2 w3 x v' (by omega)
            clear hnx hR hn hgk hcc hc hr hcc2 hy
            go_wp2_with (first | (go_at_call 94; with_reducible refine (h94 _).mono ?_; rintro e w9 ⟨rfl, rfl⟩) | (go_at_call 54; first | (with_reducible refine (copy_54 (hdr.cutA at' n b4) (by rw [List.length_take, List.length_drop]; omega)).mono ?_; rintro e w2 ⟨x, rfl, hx, g2⟩; (obtain ⟨xa, xc, rfl, -, -, -, -⟩ := row_shape hx); (have r2 := row_kept hI.row g2 (by simp))) | (with_reducible refine (copy_54 (hdr.cutB0 at' n b4 (by assumption)) (by rw [List.length_take, List.length_drop]; omega)).mono ?_; rintro e w2 ⟨x, rfl, hx, g2⟩; (obtain ⟨xa, xc, rfl, -, -, -, -⟩ := row_shape hx); (have r2 := row_kept hI.row g2 (by simp)))) | (at_builtin; go_must (refine push38 rfl _ _ rfl w.heap.size _ ps.length vs (by rfl) r2 xa _ xc (by rfl) (by omega) (Nat.le_trans hI.gb.size g2.size) ?_); intro g3 cap w3 r3 g3' _))
            all_goals (go_roundg (gk - 1); (case measure => exact hgk1); (case rel => exact hnx1 _ _ _ _ hx g2 g3' (by simpa using r3)))
          · have t4 : decide ((R : Int) < (n : Int)) = true := decide_eq_true (by omega)
            have b4 : at' + R ≤ raw.length := by omega
            have e2 : IntKind.i64.wrap ((at' : Int) + (R : Int)) = ((at' + R : Nat) : Int) := by rw [IntKind.wrap_i64]; omega
            have e3 : IntKind.i64.wrap ((k : Int) + 1) = ((k + 1 : Nat) : Int) := by rw [IntKind.wrap_i64]; omega
            have d1 : at' + R ≤ rc := by omega
            have hnx1 := fun w2 w3 x v' => hnx R w2 w3 x v' (by omega)
            clear hnx hR hn hgk hcc hc hr hcc2 hy
            go_wp2_with (first | (go_at_call 94; with_reducible refine (h94 _).mono ?_; rintro e w9 ⟨rfl, rfl⟩) | (go_at_call 54; first | (with_reducible refine (copy_54 (hdr.cutA at' R b4) (by rw [List.length_take, List.length_drop]; omega)).mono ?_; rintro e w2 ⟨x, rfl, hx, g2⟩; (obtain ⟨xa, xc, rfl, -, -, -, -⟩ := row_shape hx); (have r2 := row_kept hI.row g2 (by simp))) | (with_reducible refine (copy_54 (hdr.cutB0 at' R b4 (by assumption)) (by rw [List.length_take, List.length_drop]; omega)).mono ?_; rintro e w2 ⟨x, rfl, hx, g2⟩; (obtain ⟨xa, xc, rfl, -, -, -, -⟩ := row_shape hx); (have r2 := row_kept hI.row g2 (by simp)))) | (at_builtin; go_must (refine push38 rfl _ _ rfl w.heap.size _ ps.length vs (by rfl) r2 xa _ xc (by rfl) (by omega) (Nat.le_trans hI.gb.size g2.size) ?_); intro g3 cap w3 r3 g3' _))
            all_goals (go_roundg (gk - 1); (case measure => exact hgk1); (case rel => exact hnx1 _ _ _ _ hx g2 g3' (by simpa using r3)))
end Go.Proofs.YtobegepebochkaaGreatDoor
