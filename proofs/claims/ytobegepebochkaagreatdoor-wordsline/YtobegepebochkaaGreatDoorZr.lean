import Derived.Test.YtobegepebochkaaGreatDoorYn
import Derived.Test.YtobegepebochkaaGreatDoorZt
/-
  markAt, Lend, Intact, Over: a line that is lent, with marks behind it.
-/
namespace Go.Proofs.YtobegepebochkaaGreatDoor
open Go.RowKit Go.Maps
set_option linter.unusedVariables false
set_option linter.unusedSimpArgs false

def mk8 (k : Nat) : UInt8 := UInt8.ofNat (165 - k)
def mks (k : Nat) : Bs := (List.range k).map mk8
theorem mks_succ (k : Nat) : mks (k + 1) = mks k ++ [mk8 k] := by simp [mks, List.range_succ]
theorem mks_length (k : Nat) : (mks k).length = k := by simp [mks]
theorem mks_get (k i : Nat) (h : i < k) : (mks k)[i]? = some (mk8 i) := by simp [mks, h]
theorem mk8_toNat (k : Nat) (h : k < 70) : (((mk8 k).toNat : Nat) : Int) = 165 - (k : Int) := by
  have : (mk8 k).toNat = 165 - k := by
    simp only [mk8, UInt8.toNat_ofNat']
    omega
  rw [this]; omega
theorem markAt_61 (k : Nat) (h1 : k < 70) (w : World) : Calls Tryz.prog 61 #[.int .i64 k] w fun e w' => e = .returned (b8 (mk8 k)) ∧ w' = w := by
  have hm := mk8_toNat k h1
  have h := show Calls Tryz.prog 61 #[.int .i64 k] w fun e w' => e = .returned (.int .u8 (165 - (k : Int))) ∧ w' = w by
    clear hm
    go_enter Tryz.func61, Tryz.ntmps61
    go_wp2
    go_ret
    exact ⟨rfl, rfl⟩
  rw [← hm] at h
  exact h

set_option maxRecDepth 100000 in
set_option maxHeartbeats 4000000 in
theorem lend_14 {w : World} {X : Nat → Prop} {v : Value} {l : Bs} (hv : Ck w X v l) (hl : l.length ≤ 140737488351232) :
    Calls Tryz.prog 14 #[v] w fun e w' => ∃ g c, e = .returned (.slice (some ⟨g, 0, none⟩) l.length c) ∧ w'.ownsRow w.heap.size 5 1 (.slice (some ⟨g, 0, none⟩) (l.length + 70) c) (l.length + 70) ((l ++ mks 70).map b8) ∧ w.grownBy w' none := by
  obtain ⟨va, vn, vc, rfl, rfl⟩ := hv.slice
  have hmk := run_make_room (l.length + 70) (by omega) w
  have hmi : ((l.length + 70 : Nat) : Int) = (l.length : Int) + 70 := by omega
  rw [hmi] at hmk
  have hm : (w.alloc (.cells (Array.replicate (l.length + 70) (.int .u8 0)) 5)).ownsRow w.heap.size 5 1 (.slice (some ⟨w.heap.size, 0, none⟩) 0 (l.length + 70)) 0 [] := World.ownsRow_made w _ (l.length + 70) (Nat.le_refl _) (by unfold maxLen; omega) (by simp)
  have ga := gb_alloc (gb_refl w none) (.cells (Array.replicate (l.length + 70) (.int .u8 0)) 5)
  have hv2 : Ck (w.alloc (.cells (Array.replicate (l.length + 70) (.int .u8 0)) 5)) (fun _ => False) (.slice va l.length vc) l := hv.kp (Kp.of (F := fun _ => False) ga) (fun _ _ h => h.elim) (fun _ _ h => h.elim)
  go_enter Tryz.func14, Tryz.ntmps14
  go_wp2_with (at_builtin; go_must (refine moreC rfl _ _ rfl w.heap.size _ 0 [] (by rfl) hm _ _ l (by rfl) hv2 (by omega) (by simp) ?_); intro v' w1 h1 h2)
  have hF : w.grownBy w1 none := gb_mine ga h2 (by simp [Value.ownBlock])
  simp only [Nat.zero_add, List.nil_append] at h1
  obtain ⟨ao, cp, rfl, -⟩ := row_shape h1
  clear h2 hmk hm ga hv2
  go_wp2
  go_loopw [3, 4] (fun v c wr => ∃ (ao : Option Addr) (cap : Nat) (k : Nat), k ≤ 70 ∧ c = .int .i64 k ∧ v = .slice ao (l.length + k) cap ∧ wr.ownsRow w.heap.size 5 1 v (l.length + k) ((l ++ mks k).map b8) ∧ w.grownBy wr none) (fun _ c _ => 70 - (intOf c).toNat)
  case atStart => exact ⟨ao, cp, 0, by omega, rfl, rfl, by simpa [mks] using h1, hF⟩
  case round =>
    clear h1 hF
    obtain ⟨ao, cap, k, hk, rfl, rfl, hown, hF⟩ := hrel
    by_cases hlt : k < 70
    · have hck : Ck (wr.alloc (.cells #[b8 (mk8 k)] 5)) (fun _ => False) (.slice (some ⟨wr.heap.size, 0, none⟩) 1 1) [mk8 k] := .inr ⟨wr.heap.size, 0, 1, rfl, by simp, by omega, by simp, fun h => h, fun i x hx => by
        obtain ⟨rfl, rfl⟩ : i = 0 ∧ mk8 k = x := by
          rcases i with _ | i
          · simpa using hx
          · simp at hx
        exact World.news_of_block (cs := #[b8 (mk8 k)]) (t := 5) (fr := (0, 0)) (heap_alloc_new wr _) 0 _ rfl⟩
      have ho2 := World.ownsRow.alloc hown (.cells #[b8 (mk8 k)] 5)
      go_wp2_with (first | (go_at_call 61; refine (markAt_61 k hlt _).mono ?_; rintro e w' ⟨rfl, hw⟩; subst hw) | (at_builtin; go_must (refine moreC rfl _ _ rfl w.heap.size _ (l.length + k) _ (by rfl) ho2 _ _ [mk8 k] (by rfl) hck (by simp; omega) (by have := hF.size; simp; omega) ?_); intro v2 w2 h1 h2))
      have hF' : w.grownBy w2 none := gb_far (gb_alloc hF _) h2 (fun k e => (World.ownsRow.lt hown k e).1) (Nat.le_refl _)
      rw [← List.map_append, List.append_assoc, ← mks_succ] at h1
      obtain ⟨ao2, cp2, rfl, -⟩ := row_shape h1
      go_wp2
      go_roundw
      case rel => exact ⟨ao2, cp2, k + 1, by omega, by go_num, rfl, h1, hF'⟩
      case measure => simp [intOf]; omega
    · obtain rfl : k = 70 := by omega
      obtain ⟨ao3, cp3, e3, -, hcap, hmx, hg⟩ := row_shape hown
      obtain ⟨g, rfl⟩ := hg (by omega)
      cases e3
      unfold maxLen at hmx
      go_wp2
      go_ret
      exact ⟨g, _, rfl, hown, hF⟩
end Go.Proofs.YtobegepebochkaaGreatDoor
/-
  Intact and Over of a line that is lent.
-/
namespace Go.Proofs.YtobegepebochkaaGreatDoor
open Go.RowKit Go.Maps
set_option linter.unusedVariables false
set_option linter.unusedSimpArgs false

theorem Ck.conv {w : World} {X : Nat → Prop} {v : Value} {l : Bs} (h : Ck w X v l) : (convert 38 9 v).run Tryz.prog w = .ok (sv l) w := by
  rcases h with ⟨rfl, rfl⟩ | ⟨g, o, c, rfl, _, _, _, _, h4⟩
  · exact run_convert_bytes_nil w 38 5 Tryz.underlying38 Tryz.underlying5 0 0 9 Tryz.underlying9
  · refine run_convert_bytes_back w 38 9 5 ⟨g, o, none⟩ c l Tryz.underlying38 Tryz.underlying5 Tryz.underlying9 ?_
    intro j hj
    rw [Addr.add_mid]
    exact h4 j l[j] (List.getElem?_eq_getElem hj)
set_option maxRecDepth 100000 in
set_option maxHeartbeats 4000000 in
theorem eq_35 {w : World} {X Y : Nat → Prop} {a b : Value} {l : Bs} (hA : Ck w X a l) (hB : Ck w Y b l) :
    Calls Tryz.prog 35 #[a, b] w fun e w' => e = .returned (.bool true) ∧ w' = w := by
  have h1 := hA.conv
  have h2 := hB.conv
  obtain ⟨a1, n1, c1, rfl, -⟩ := hA.slice
  obtain ⟨a2, n2, c2, rfl, -⟩ := hB.slice
  go_enter Tryz.func35, Tryz.ntmps35
  go_wp2
  go_ret
  first
    | exact ⟨rfl, rfl⟩
    | exact ⟨by simp, rfl⟩
/-- The line's own part of what was lent. -/
theorem lent_ck {w : World} {B g c : Nat} {l m : Bs} (h : w.ownsRow B 5 1 (.slice (some ⟨g, 0, none⟩) (l.length + m.length) c) (l.length + m.length) ((l ++ m).map b8)) (X : Nat → Prop) (hX : ¬ X g) : Ck w X (.slice (some ⟨g, 0, none⟩) l.length c) l := by
  obtain ⟨a0, c0, e0, -, h1, h2, -⟩ := row_shape h
  cases e0
  unfold maxLen at h2
  refine .inr ⟨g, 0, c, rfl, by omega, by omega, row_lt h g rfl, hX, fun i x hi => ?_⟩
  rw [Nat.zero_add]
  refine row_cell h i _ ?_
  have hlt : i < l.length := by
    by_cases hh : i < l.length
    · exact hh
    · rw [List.getElem?_eq_none (by omega)] at hi; cases hi
  rw [List.getElem?_map, List.getElem?_append_left hlt, hi]; rfl
set_option maxRecDepth 100000 in
set_option maxHeartbeats 4000000 in
theorem intact_17 {w : World} {B g c : Nat} {Y : Nat → Prop} {v : Value} {l : Bs} (h : w.ownsRow B 5 1 (.slice (some ⟨g, 0, none⟩) (l.length + 70) c) (l.length + 70) ((l ++ mks 70).map b8)) (hv : Ck w Y v l) (hl : l.length ≤ 140737488351232) :
    Calls Tryz.prog 17 #[.slice (some ⟨g, 0, none⟩) l.length c, v] w fun e w' => e = .returned (.bool true) ∧ w.grownBy w' none := by
  have hA : Ck w (fun _ => False) (.slice (some ⟨g, 0, none⟩) l.length c) l := lent_ck (m := mks 70) (by rw [mks_length]; exact h) _ (fun h => h)
  obtain ⟨a0, c0, e0, -, hcap, hmx, -⟩ := row_shape h
  cases e0
  unfold maxLen at hmx
  have heq := eq_35 hA hv
  obtain ⟨va, vn, vc, rfl, rfl⟩ := hv.slice
  have hcs : ∀ k, k < 70 → w.cell? ⟨g, l.length + k, none⟩ = some (b8 (mk8 k)) := fun k hk => by
    refine row_cell h _ _ ?_
    rw [List.getElem?_map, List.getElem?_append_right (by omega), Nat.add_sub_cancel_left, mks_get 70 k hk]; rfl
  clear h hA hv
  go_enter Tryz.func17, Tryz.ntmps17
  go_wp2_with (go_at_call 35; refine heq.mono ?_; rintro e w' ⟨rfl, hw⟩; subst hw)
  clear heq
  go_wp2
  go_loopw [6] (fun c wr => ∃ (k : Nat), k ≤ 70 ∧ c = .int .i64 k ∧ w'.grownBy wr none) (fun c _ => 70 - (intOf c).toNat)
  case atStart => exact ⟨0, by omega, rfl, gb_refl _ _⟩
  case round =>
    obtain ⟨k, hk, rfl, hF⟩ := hrel
    by_cases hlt : k < 70
    · have hc2 := gb_cellN hF (hcs k hlt)
      have hmt := mk8_toNat k hlt
      have hnk : (0 : Int) ≤ (l.length : Int) + k := by omega
      have hnk3 : (l.length : Int) + k < (l.length : Int) + 70 := by omega
      have hnk4 : ((l.length : Int) + k).toNat = l.length + k := by omega
      have hwr : IntKind.i64.wrap ((l.length : Int) + k) = (l.length : Int) + k := by rw [IntKind.wrap_i64]; omega
      have hd : decide ((k : Int) < 70) = true := by simp; omega
      clear hcs
      go_wp2
      go_quiet ((go_at_call 61; exact Calls.quiet_of_same (markAt_61 k hlt _)))
      go_wp2
      go_roundw
      case rel => exact ⟨k + 1, by omega, by go_num, gb_drewN hF _⟩
      case measure => simp [intOf]; omega
    · go_wp2
      go_ret
      exact ⟨rfl, hF⟩
end Go.Proofs.YtobegepebochkaaGreatDoor
/-
  Over: a line that was lent is struck out.
-/
namespace Go.Proofs.YtobegepebochkaaGreatDoor
open Go.RowKit Go.Maps
set_option linter.unusedVariables false
set_option linter.unusedSimpArgs false

set_option maxRecDepth 100000 in
set_option maxHeartbeats 4000000 in
theorem lentover_18 {w : World} {B g n m c : Nat} {xs : List UInt8} (h : w.ownsRow B 5 1 (.slice (some ⟨g, 0, none⟩) m c) m (xs.map b8)) (hn : n ≤ m) (hx : xs.length = m) (hm : m ≤ 140737488355328) :
    Calls Tryz.prog 18 #[.slice (some ⟨g, 0, none⟩) n c] w fun e w' => e = .returned (.tuple #[]) ∧ w.grownBy w' (some g) := by
  have hmx := row_shape h
  obtain ⟨a0, c0, e0, -, hcap, hmx, -⟩ := hmx
  cases e0
  unfold maxLen at hmx
  go_enter Tryz.func18, Tryz.ntmps18
  go_wp2
  go_loopw [2] (fun c' wr => ∃ (k : Nat) (vs : List UInt8), k ≤ n ∧ c' = .int .i64 k ∧ vs.length = m ∧ wr.ownsRow B 5 1 (.slice (some ⟨g, 0, none⟩) m c) m (vs.map b8) ∧ w.grownBy wr (some g)) (fun c' _ => n - (intOf c').toNat)
  case atStart => exact ⟨0, xs, by omega, rfl, hx, h, gb_refl _ _⟩
  case round =>
    clear h
    obtain ⟨k, vs, hk, rfl, hvl, hown, hF⟩ := hrel
    by_cases hlt : k < n
    · have hcell : wr.cell? ⟨g, k, none⟩ = some (b8 (vs.getD k 0)) := row_cell hown k _ (by simp [List.getD, show k < vs.length by omega])
      have hfz := World.ownsRow.frozenAt hown k
      have hst := World.ownsRow.stored hown k (.int .u8 238)
      have HO : Hid ((wr.setCell ⟨g, k, none⟩ (.int .u8 238)).ownsRow B 5 1 (.slice (some ⟨g, 0, none⟩) m c) m ((vs.set k 238).map b8)) := by
        show World.ownsRow _ _ _ _ _ _ _
        rw [List.map_set]
        exact row_set hown k (.int .u8 238)
      have HF : Hid (w.grownBy (wr.setCell ⟨g, k, none⟩ (.int .u8 238)) (some g)) := gb_trans hF hst.2
      clear hst
      go_wp2
      go_roundw
      case rel => exact ⟨k + 1, vs.set k 238, by omega, by go_num, by simpa using hvl, HO, HF⟩
      case measure => simp [intOf]; omega
    · go_wp2
      go_end0
      exact ⟨rfl, hF⟩
end Go.Proofs.YtobegepebochkaaGreatDoor
/-
  Digits and word: two functions that call themselves.
-/
namespace Go.Proofs.YtobegepebochkaaGreatDoor
open Go.RowKit Go.Maps
set_option linter.unusedVariables false
set_option linter.unusedSimpArgs false

def d8 (k n : Nat) : UInt8 := UInt8.ofNat (k + n)
def dg (n : Nat) : Bs := if h : n < 10 then [d8 48 n] else dg (n / 10) ++ dg (n % 10)
theorem dg_lo (n : Nat) (h : n < 10) : dg n = [d8 48 n] := by rw [dg, dif_pos h]
theorem dg_hi (n : Nat) (h : ¬ n < 10) : dg n = dg (n / 10) ++ dg (n % 10) := by rw [dg, dif_neg h]
theorem dg_len : ∀ n, (dg n).length ≤ n + 1 := by
  intro n
  induction n using Nat.strongRecOn with
  | _ n ih =>
    by_cases h : n < 10
    · rw [dg_lo n h]; simp
    · rw [dg_hi n h, List.length_append]
      have h1 := ih (n / 10) (by omega)
      have h2 := ih (n % 10) (by omega)
      omega
set_option maxRecDepth 100000 in
set_option maxHeartbeats 4000000 in
theorem digits_lo (n : Nat) (h : n < 10) (w : World) : Calls Tryz.prog 74 #[.int .u64 n] w fun e w' => e = .returned (sv (dg n)) ∧ w.grownBy w' none := by
  rw [dg_lo n h]
  have hwr : IntKind.u64.wrap (48 + (n : Int)) = 48 + (n : Int) := by rw [IntKind.wrap_u64]; omega
  have hw8 : IntKind.u8.wrap (48 + (n : Int)) = 48 + (n : Int) := by rw [IntKind.wrap_u8]; omega
  have ht : (((d8 48 n).toNat : Nat) : Int) = 48 + (n : Int) := by
    have : (d8 48 n).toNat = 48 + n := by simp only [d8, UInt8.toNat_ofNat']; omega
    rw [this]; omega
  have hg : decide ((10 : Int) ≤ (n : Int)) = false := by simp; omega
  have hck : Ck (w.alloc (.cells #[.int .u8 (48 + (n : Int))] 5)) (fun _ => False) (.slice (some ⟨w.heap.size, 0, none⟩) 1 1) [d8 48 n] := .inr ⟨w.heap.size, 0, 1, rfl, by simp, by omega, by simp, fun h => h, fun i x hx => by
        obtain ⟨rfl, rfl⟩ : i = 0 ∧ d8 48 n = x := by
          rcases i with _ | i
          · simpa using hx
          · simp at hx
        rw [b8, ht]
        exact World.news_of_block (cs := #[.int .u8 (48 + (n : Int))]) (t := 5) (fr := (0, 0)) (heap_alloc_new w _) 0 _ rfl⟩
  have hcv := hck.conv
  go_enter Tryz.func74, Tryz.ntmps74
  go_wp2
  go_ret
  exact ⟨rfl, gb_alloc (gb_refl _ none) _⟩
set_option maxRecDepth 100000 in
set_option maxHeartbeats 4000000 in
theorem digits_74 (n : Nat) : n < 1000000 → ∀ w : World, Calls Tryz.prog 74 #[.int .u64 n] w fun e w' => e = .returned (sv (dg n)) ∧ w.grownBy w' none := by
  induction n using Nat.strongRecOn with
  | _ n ih =>
    intro hn w
    by_cases h : n < 10
    · exact digits_lo n h w
    · rw [dg_hi n h]
      have h1 := ih (n / 10) (by omega) (by omega)
      have h2 := fun W => digits_lo (n % 10) (by omega) W
      have l1 := dg_len (n / 10)
      have l2 := dg_len (n % 10)
      have hg : decide ((10 : Int) ≤ (n : Int)) = true := by simp; omega
      have hg2 : (10 : Int) ≤ (n : Int) := by omega
      have e1 : (n : Int).tdiv 10 = ((n / 10 : Nat) : Int) := by rw [Int.tdiv_eq_ediv_of_nonneg (by omega)]; rfl
      have e2 : (n : Int).tmod 10 = ((n % 10 : Nat) : Int) := by rw [Int.tmod_eq_emod_of_nonneg (by omega)]; rfl
      have b1 : n / 10 < 1000000 := by omega
      have b2 : n % 10 < 10 := by omega
      clear ih
      generalize hqa : n / 10 = qa at h1 l1 e1 b1 ⊢
      generalize hqb : n % 10 = qb at h2 l2 e2 b2 ⊢
      clear hqa hqb
      have e3 : IntKind.u64.wrap (qa : Int) = (qa : Int) := by rw [IntKind.wrap_u64]; omega
      have e4 : IntKind.u64.wrap (qb : Int) = (qb : Int) := by rw [IntKind.wrap_u64]; omega
      go_enter Tryz.func74, Tryz.ntmps74
      go_wp2_with fail
      refine (h1 _).mono ?_
      rintro e w1 ⟨rfl, g1⟩
      go_wp2_with fail
      refine (h2 _).mono ?_
      rintro e w2 ⟨rfl, g2⟩
      go_wp2_with fail
      go_ret
      refine ⟨?_, gb_trans g1 g2⟩
      show Ending.returned (Value.string ((⟨(dg qa).toArray⟩ : ByteArray) ++ ⟨(dg qb).toArray⟩)) = Ending.returned (sv (dg qa ++ dg qb))
      rw [ba_app]
def wd (n : Nat) : Bs := if h : n < 26 then [d8 65 n] else wd (n / 26 - 1) ++ [d8 65 (n % 26)]
theorem wd_lo (n : Nat) (h : n < 26) : wd n = [d8 65 n] := by rw [wd, dif_pos h]
theorem wd_hi (n : Nat) (h : ¬ n < 26) : wd n = wd (n / 26 - 1) ++ [d8 65 (n % 26)] := by rw [wd, dif_neg h]
theorem wd_len : ∀ n, (wd n).length ≤ n + 1 := by
  intro n
  induction n using Nat.strongRecOn with
  | _ n ih =>
    by_cases h : n < 26
    · rw [wd_lo n h]; simp
    · rw [wd_hi n h, List.length_append]
      have h1 := ih (n / 26 - 1) (by omega)
      simp
      omega
theorem d8_ck (w : World) (n : Nat) (h : n < 26) : Ck (w.alloc (.cells #[.int .u8 (65 + (n : Int))] 5)) (fun _ => False) (.slice (some ⟨w.heap.size, 0, none⟩) 1 1) [d8 65 n] := .inr ⟨w.heap.size, 0, 1, rfl, by simp, by omega, by simp, fun h => h, fun i x hx => by
        obtain ⟨rfl, rfl⟩ : i = 0 ∧ d8 65 n = x := by
          rcases i with _ | i
          · simpa using hx
          · simp at hx
        have ht : (((d8 65 n).toNat : Nat) : Int) = 65 + (n : Int) := by
          have : (d8 65 n).toNat = 65 + n := by simp only [d8, UInt8.toNat_ofNat']; omega
          rw [this]; omega
        rw [b8, ht]
        exact World.news_of_block (cs := #[.int .u8 (65 + (n : Int))]) (t := 5) (fr := (0, 0)) (heap_alloc_new w _) 0 _ rfl⟩
set_option maxRecDepth 100000 in
set_option maxHeartbeats 4000000 in
theorem word_lo (n : Nat) (h : n < 26) (w : World) : Calls Tryz.prog 110 #[.int .i64 n] w fun e w' => e = .returned (sv (wd n)) ∧ w.grownBy w' none := by
  rw [wd_lo n h]
  have hwr : IntKind.i64.wrap (65 + (n : Int)) = 65 + (n : Int) := by rw [IntKind.wrap_i64]; omega
  have hw8 : IntKind.u8.wrap (65 + (n : Int)) = 65 + (n : Int) := by rw [IntKind.wrap_u8]; omega
  have hg : decide ((n : Int) < 26) = true := by simp; omega
  have hcv := (d8_ck w n h).conv
  go_enter Tryz.func110, Tryz.ntmps110
  go_wp2_with fail
  go_ret
  exact ⟨rfl, gb_alloc (gb_refl _ none) _⟩
end Go.Proofs.YtobegepebochkaaGreatDoor
