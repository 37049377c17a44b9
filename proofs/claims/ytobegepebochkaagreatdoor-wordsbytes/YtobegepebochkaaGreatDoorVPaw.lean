import Derived.Test.YtobegepebochkaaGreatDoorVP
import Derived.Deep.RegionHeld3
import Derived.Deep.RegionLaw
import Derived.Test.YtobegepebochkaaGreatDoorVPat
import Derived.Test.YtobegepebochkaaGreatDoorVPae
import Derived.Test.YtobegepebochkaaGreatDoorVPap
import Derived.Test.YtobegepebochkaaGreatDoorVPaj
set_option linter.unusedVariables false
set_option linter.unusedSimpArgs false
namespace Go.Proofs.YtobegepebochkaaGreatDoor
open Go.RowKit Go.Maps
theorem line_10 {w : World} {gb : Nat} (hG : GM w gb rowL) (hE : Er w) (v : Value) (l : Bs) (hB : By w v l) :
    Calls Tryz.prog 63 #[.map (some gb), v] w fun e w' => LnP l w e w' := by
  rcases Nat.lt_or_ge 2048 l.length with hl | hl
  · exact line_up gb v l hB tooLong (by rw [if_neg (by decide)]; simp only [lineS, hl, if_true]) (fun W hW => begin_long gb v l (hB.kept hW) hl)
  · have h1 : ¬ 2048 < l.length := by omega
    cases hs : spl [] l with
    | nil => exact line_up gb v l hB [] (by rw [if_pos rfl]; simp only [lineS, h1, if_false, hs]) (fun W hW => begin_none gb v l (hB.kept hW) hl hs)
    | cons x ws =>
      cases hr : rowS x with
      | none => exact line_up gb v l hB [] (by rw [if_pos rfl]; simp only [lineS, h1, if_false, hs, hr]) (fun W hW => begin_no (hG.kept hW (by simp)) v l (hB.kept hW) hl x ws hs hr)
      | some r => exact line_read hG hE v l hB hl x ws hs r hr
set_option maxRecDepth 100000 in
set_option maxHeartbeats 4000000 in
theorem Line_6 {w : World} (hE : Er w) (v : Value) (l : Bs) (hB : By w v l) :
    Calls Tryz.prog 15 #[v] w fun e w' => LnP l w e w' := by
  obtain ⟨W2, hW2⟩ : ∃ W2, (w.alloc (.cells (Z31 0 false) 41)).alloc (.cells #[.int .i64 0, .string ⟨#[]⟩, .int .i64 0] 43) = W2 := ⟨_, rfl⟩
  have q1 : Box W2 41 w.heap.size (Z31 0 false) := by rw [← hW2]; exact (Box.new w 41 _).kept (gb_alloc (gb_refl _ none) _) (by simp)
  have q2 : Box W2 43 (w.heap.size + 1) #[.int .i64 0, .string ⟨#[]⟩, .int .i64 0] := by
    have := Box.new (w.alloc (.cells (Z31 0 false) 41)) 43 #[.int .i64 0, .string ⟨#[]⟩, .int .i64 0]
    simp only [World.size_alloc] at this
    rw [← hW2]; exact this
  have q3 : w.grownBy W2 none := by rw [← hW2]; exact gb_alloc (gb_alloc (gb_refl w none) _) _
  have h9 := rows_9 W2
  rw [show W2.heap.size = w.heap.size + 1 + 1 by rw [← hW2]; simp] at h9
  have h10 := fun W gb (hG : GM W gb rowL) hE (hB : By W v l) => line_10 hG hE v l hB
  obtain ⟨a, c0, rfl⟩ := hB.shape
  subst hW2
  go_enter Tryz.func15, Tryz.ntmps15
  go_wp2_with (first | (go_at_call 62; go_must ((with_reducible refine h9.mono ?_); rintro e w3 ⟨rfl, hG3, hg3⟩; (have hgw3 := gb_trans q3 hg3))) | (go_at_call 63; go_must ((with_reducible refine (h10 _ _ hG3 (hE.kept hgw3) (hB.kept hgw3)).mono ?_); rintro e w4 ⟨hL, hg4⟩; (have hg24 := gb_trans hg3 hg4); (have y1 := q1.kept hg24 (by simp)); (have y2 := q2.kept hg24 (by simp)); (have hs3 := hg3.size); (have cc0 : w4.cell? ⟨w.heap.size, 0, none⟩ = some (.int .i64 0) := y1.cell 0); (have cf0 := y1.fz 0); (have cc1 : w4.cell? ⟨w.heap.size, 1, none⟩ = some (.slice none 0 0) := y1.cell 1); (have cf1 := y1.fz 1); (have cc2 : w4.cell? ⟨w.heap.size, 2, none⟩ = some (.int .u64 0) := y1.cell 2); (have cf2 := y1.fz 2); (have cc3 : w4.cell? ⟨w.heap.size, 3, none⟩ = some (.int .i64 0) := y1.cell 3); (have cf3 := y1.fz 3); (have cc4 : w4.cell? ⟨w.heap.size, 4, none⟩ = some (.int .u64 0) := y1.cell 4); (have cf4 := y1.fz 4); (have cc5 : w4.cell? ⟨w.heap.size, 5, none⟩ = some (.int .u64 0) := y1.cell 5); (have cf5 := y1.fz 5); (have cc6 : w4.cell? ⟨w.heap.size, 6, none⟩ = some (.slice none 0 0) := y1.cell 6); (have cf6 := y1.fz 6); (have cc7 : w4.cell? ⟨w.heap.size, 7, none⟩ = some (.bool false) := y1.cell 7); (have cf7 := y1.fz 7); (have cc8 : w4.cell? ⟨w.heap.size, 8, none⟩ = some (.bool false) := y1.cell 8); (have cf8 := y1.fz 8); (have cc9 : w4.cell? ⟨w.heap.size, 9, none⟩ = some (.slice none 0 0) := y1.cell 9); (have cf9 := y1.fz 9); (have cc10 : w4.cell? ⟨w.heap.size, 10, none⟩ = some (.string ⟨#[]⟩) := y1.cell 10); (have cf10 := y1.fz 10); (have ec0 : w4.cell? ⟨w.heap.size + 1, 0, none⟩ = some (.int .i64 0) := y2.cell 0); (have ef0 := y2.fz 0); (have ec1 : w4.cell? ⟨w.heap.size + 1, 1, none⟩ = some (.string ⟨#[]⟩) := y2.cell 1); (have ef1 := y2.fz 1); (have ec2 : w4.cell? ⟨w.heap.size + 1, 2, none⟩ = some (.int .i64 0) := y2.cell 2); (have ef2 := y2.fz 2); rcases hL with ⟨c, n, kv, mv, hl, rfl, kr, mr⟩ | ⟨k, t, p, hl, rfl⟩; obtain ⟨ka, kc, rfl, -, -, -, -⟩ := row_shape kr; obtain ⟨ma, mc, rfl, -, -, -, -⟩ := row_shape mr)))
  · obtain ⟨x1, gx1⟩ := box11 (v0 := (.int .i64 c.verb)) (v1 := (.slice ka c.keys.length kc)) (v2 := (.int .u64 c.flags)) (v3 := (.int .i64 c.exp)) (v4 := (.int .u64 c.tok)) (v5 := (.int .u64 c.del)) (v6 := (.slice none 0 0)) (v7 := (.bool c.nr)) (v8 := (.bool false)) (v9 := (.slice ma c.mt.length mc)) (v10 := (.string ⟨c.what.toArray⟩)) y1
    have hkr := row_kept kr gx1 (fun k hk e => by injection e with e; have := (World.ownsRow.lt kr k hk).1; simp at hs3; omega)
    have hmr := row_kept mr gx1 (fun k hk e => by injection e with e; have := (World.ownsRow.lt mr k hk).1; simp at hs3; omega)
    have x2 := y2.kept gx1 (by simp)
    generalize (((((((((((w4.setCell ⟨w.heap.size, 0, none⟩ (.int .i64 c.verb)).setCell ⟨w.heap.size, 1, none⟩ (.slice ka c.keys.length kc)).setCell ⟨w.heap.size, 2, none⟩ (.int .u64 c.flags)).setCell ⟨w.heap.size, 3, none⟩ (.int .i64 c.exp)).setCell ⟨w.heap.size, 4, none⟩ (.int .u64 c.tok)).setCell ⟨w.heap.size, 5, none⟩ (.int .u64 c.del)).setCell ⟨w.heap.size, 6, none⟩ (.slice none 0 0)).setCell ⟨w.heap.size, 7, none⟩ (.bool c.nr)).setCell ⟨w.heap.size, 8, none⟩ (.bool false)).setCell ⟨w.heap.size, 9, none⟩ (.slice ma c.mt.length mc)).setCell ⟨w.heap.size, 10, none⟩ (.string ⟨c.what.toArray⟩)) = S1 at x1 gx1 hkr hmr x2 ⊢
    obtain ⟨z2, gz2⟩ := box3 (v0 := .int .i64 0) (v1 := .string ⟨#[]⟩) (v2 := .int .i64 0) x2
    have z1 := x1.kept gz2 (by simp)
    have hkr2 := row_kept hkr gz2 (fun k hk e => by injection e with e; have := (World.ownsRow.lt kr k hk).1; simp at hs3; omega)
    have hmr2 := row_kept hmr gz2 (fun k hk e => by injection e with e; have := (World.ownsRow.lt mr k hk).1; simp at hs3; omega)
    refine ⟨rfl, _, res6 z1 z2 _ rfl rfl rfl, .inl ⟨c, n, .slice ka c.keys.length kc, .slice ma c.mt.length mc, hl, rfl, row_base hkr2 (by simp at hs3; omega), row_base hmr2 (by simp at hs3; omega)⟩, ?_⟩
    exact gb_mine (gb_mine (gb_trans hgw3 hg4) gx1 (by omega)) gz2 (by omega)
  · obtain ⟨x1, gx1⟩ := box11 (v0 := (.int .i64 0)) (v1 := (.slice none 0 0)) (v2 := (.int .u64 0)) (v3 := (.int .i64 0)) (v4 := (.int .u64 0)) (v5 := (.int .u64 0)) (v6 := (.slice none 0 0)) (v7 := (.bool false)) (v8 := (.bool false)) (v9 := (.slice none 0 0)) (v10 := (.string ⟨#[]⟩)) y1
    have x2 := y2.kept gx1 (by simp)
    generalize (((((((((((w4.setCell ⟨w.heap.size, 0, none⟩ (.int .i64 0)).setCell ⟨w.heap.size, 1, none⟩ (.slice none 0 0)).setCell ⟨w.heap.size, 2, none⟩ (.int .u64 0)).setCell ⟨w.heap.size, 3, none⟩ (.int .i64 0)).setCell ⟨w.heap.size, 4, none⟩ (.int .u64 0)).setCell ⟨w.heap.size, 5, none⟩ (.int .u64 0)).setCell ⟨w.heap.size, 6, none⟩ (.slice none 0 0)).setCell ⟨w.heap.size, 7, none⟩ (.bool false)).setCell ⟨w.heap.size, 8, none⟩ (.bool false)).setCell ⟨w.heap.size, 9, none⟩ (.slice none 0 0)).setCell ⟨w.heap.size, 10, none⟩ (.string ⟨#[]⟩)) = S1 at x1 gx1 x2 ⊢
    obtain ⟨z2, gz2⟩ := box3 (v0 := .int .i64 k) (v1 := .string ⟨t.toArray⟩) (v2 := .int .i64 p) x2
    have z1 := x1.kept gz2 (by simp)
    refine ⟨rfl, _, res6 z1 z2 _ rfl rfl rfl, .inr ⟨k, t, p, hl, rfl⟩, ?_⟩
    exact gb_mine (gb_mine (gb_trans hgw3 hg4) gx1 (by omega)) gz2 (by omega)
end Go.Proofs.YtobegepebochkaaGreatDoor
namespace Go.Proofs.YtobegepebochkaaGreatDoor
open Go.RowKit Go.Maps
attribute [local go_sem] Oper.semAt_some
def Wt (W : World) (a : Option Addr) (ws : List Bs) : Prop := ∀ k x, ws[k]? = some x → ∃ g o, a = some ⟨g, o, none⟩ ∧ W.cell? ⟨g, o + k, none⟩ = some (sv x)
end Go.Proofs.YtobegepebochkaaGreatDoor
namespace Go.Proofs.YtobegepebochkaaGreatDoor
open Go.RowKit Go.Maps
theorem Ck.conv {w : World} {X : Nat → Prop} {v : Value} {l : Bs} (h : Ck w X v l) : (convert 38 9 v).run Tryz.prog w = .ok (sv l) w := by
  rcases h with ⟨rfl, rfl⟩ | ⟨g, o, c, rfl, _, _, _, _, h4⟩
  · exact run_convert_bytes_nil w 38 5 Tryz.underlying38 Tryz.underlying5 0 0 9 Tryz.underlying9
  · refine run_convert_bytes_back w 38 9 5 ⟨g, o, none⟩ c l Tryz.underlying38 Tryz.underlying5 Tryz.underlying9 ?_
    intro j hj
    rw [Addr.add_mid]
    exact h4 j l[j] (List.getElem?_eq_getElem hj)
set_option maxRecDepth 100000 in
set_option maxHeartbeats 4000000 in
theorem eq_35 {w : World} {X Y : Nat → Prop} {a b : Value} {l : Bs} (hA : Ck w X a l) (hB : Ck w Y b l) :
    Calls Tryz.prog 35 #[a, b] w fun e w' => e = .returned (.bool true) ∧ w' = w := by
  have h1 := hA.conv
  have h2 := hB.conv
  obtain ⟨a1, n1, c1, rfl, -⟩ := hA.slice
  obtain ⟨a2, n2, c2, rfl, -⟩ := hB.slice
  go_enter Tryz.func35, Tryz.ntmps35
  go_wp2
  go_ret
  first
    | exact ⟨rfl, rfl⟩
    | exact ⟨by simp, rfl⟩
theorem lent_ck {w : World} {B g c : Nat} {l m : Bs} (h : w.ownsRow B 5 1 (.slice (some ⟨g, 0, none⟩) (l.length + m.length) c) (l.length + m.length) ((l ++ m).map b8)) (X : Nat → Prop) (hX : ¬ X g) : Ck w X (.slice (some ⟨g, 0, none⟩) l.length c) l := by
  obtain ⟨a0, c0, e0, -, h1, h2, -⟩ := row_shape h
  cases e0
  unfold maxLen at h2
  refine .inr ⟨g, 0, c, rfl, by omega, by omega, row_lt h g rfl, hX, fun i x hi => ?_⟩
  rw [Nat.zero_add]
  refine row_cell h i _ ?_
  have hlt : i < l.length := by
    by_cases hh : i < l.length
    · exact hh
    · rw [List.getElem?_eq_none (by omega)] at hi; cases hi
  rw [List.getElem?_map, List.getElem?_append_left hlt, hi]; rfl
end Go.Proofs.YtobegepebochkaaGreatDoor
namespace Go.Proofs.YtobegepebochkaaGreatDoor
open Go.RowKit Go.Maps
def d8 (k n : Nat) : UInt8 := UInt8.ofNat (k + n)
def dg (n : Nat) : Bs := if h : n < 10 then [d8 48 n] else dg (n / 10) ++ dg (n % 10)
theorem dg_lo (n : Nat) (h : n < 10) : dg n = [d8 48 n] := by rw [dg, dif_pos h]
theorem dg_hi (n : Nat) (h : ¬ n < 10) : dg n = dg (n / 10) ++ dg (n % 10) := by rw [dg, dif_neg h]
set_option maxRecDepth 100000 in
set_option maxHeartbeats 4000000 in
theorem digits_lo (n : Nat) (h : n < 10) (w : World) : Calls Tryz.prog 74 #[.int .u64 n] w fun e w' => e = .returned (sv (dg n)) ∧ w.grownBy w' none := by
  rw [dg_lo n h]
  have hwr : IntKind.u64.wrap (48 + (n : Int)) = 48 + (n : Int) := by rw [IntKind.wrap_u64]; omega
  have hw8 : IntKind.u8.wrap (48 + (n : Int)) = 48 + (n : Int) := by rw [IntKind.wrap_u8]; omega
  have ht : (((d8 48 n).toNat : Nat) : Int) = 48 + (n : Int) := by
    have : (d8 48 n).toNat = 48 + n := by simp only [d8, UInt8.toNat_ofNat']; omega
    rw [this]; omega
  have hg : decide ((10 : Int) ≤ (n : Int)) = false := by simp; omega
  have hck : Ck (w.alloc (.cells #[.int .u8 (48 + (n : Int))] 5)) (fun _ => False) (.slice (some ⟨w.heap.size, 0, none⟩) 1 1) [d8 48 n] := .inr ⟨w.heap.size, 0, 1, rfl, by simp, by omega, by simp, fun h => h, fun i x hx => by
        obtain ⟨rfl, rfl⟩ : i = 0 ∧ d8 48 n = x := by
          rcases i with _ | i
          · simpa using hx
          · simp at hx
        rw [b8, ht]
        exact World.news_of_block (cs := #[.int .u8 (48 + (n : Int))]) (t := 5) (fr := (0, 0)) (heap_alloc_new w _) 0 _ rfl⟩
  have hcv := hck.conv
  go_enter Tryz.func74, Tryz.ntmps74
  go_wp2
  go_ret
  exact ⟨rfl, gb_alloc (gb_refl _ none) _⟩
def wd (n : Nat) : Bs := if h : n < 26 then [d8 65 n] else wd (n / 26 - 1) ++ [d8 65 (n % 26)]
theorem wd_lo (n : Nat) (h : n < 26) : wd n = [d8 65 n] := by rw [wd, dif_pos h]
theorem wd_hi (n : Nat) (h : ¬ n < 26) : wd n = wd (n / 26 - 1) ++ [d8 65 (n % 26)] := by rw [wd, dif_neg h]
theorem wd_len : ∀ n, (wd n).length ≤ n + 1 := by
  intro n
  induction n using Nat.strongRecOn with
  | _ n ih =>
    by_cases h : n < 26
    · rw [wd_lo n h]; simp
    · rw [wd_hi n h, List.length_append]
      have h1 := ih (n / 26 - 1) (by omega)
      simp
      omega
theorem d8_ck (w : World) (n : Nat) (h : n < 26) : Ck (w.alloc (.cells #[.int .u8 (65 + (n : Int))] 5)) (fun _ => False) (.slice (some ⟨w.heap.size, 0, none⟩) 1 1) [d8 65 n] := .inr ⟨w.heap.size, 0, 1, rfl, by simp, by omega, by simp, fun h => h, fun i x hx => by
        obtain ⟨rfl, rfl⟩ : i = 0 ∧ d8 65 n = x := by
          rcases i with _ | i
          · simpa using hx
          · simp at hx
        have ht : (((d8 65 n).toNat : Nat) : Int) = 65 + (n : Int) := by
          have : (d8 65 n).toNat = 65 + n := by simp only [d8, UInt8.toNat_ofNat']; omega
          rw [this]; omega
        rw [b8, ht]
        exact World.news_of_block (cs := #[.int .u8 (65 + (n : Int))]) (t := 5) (fr := (0, 0)) (heap_alloc_new w _) 0 _ rfl⟩
set_option maxRecDepth 100000 in
set_option maxHeartbeats 4000000 in
theorem word_lo (n : Nat) (h : n < 26) (w : World) : Calls Tryz.prog 110 #[.int .i64 n] w fun e w' => e = .returned (sv (wd n)) ∧ w.grownBy w' none := by
  rw [wd_lo n h]
  have hwr : IntKind.i64.wrap (65 + (n : Int)) = 65 + (n : Int) := by rw [IntKind.wrap_i64]; omega
  have hw8 : IntKind.u8.wrap (65 + (n : Int)) = 65 + (n : Int) := by rw [IntKind.wrap_u8]; omega
  have hg : decide ((n : Int) < 26) = true := by simp; omega
  have hcv := (d8_ck w n h).conv
  go_enter Tryz.func110, Tryz.ntmps110
  go_wp2_with fail
  go_ret
  exact ⟨rfl, gb_alloc (gb_refl _ none) _⟩
end Go.Proofs.YtobegepebochkaaGreatDoor
namespace Go.Proofs.YtobegepebochkaaGreatDoor
open Go.RowKit Go.Maps
set_option maxRecDepth 100000 in
set_option maxHeartbeats 4000000 in
theorem word_110 (n : Nat) : n < 1000000 → ∀ w : World, Calls Tryz.prog 110 #[.int .i64 n] w fun e w' => e = .returned (sv (wd n)) ∧ w.grownBy w' none := by
  induction n using Nat.strongRecOn with
  | _ n ih =>
    intro hn w
    by_cases h : n < 26
    · exact word_lo n h w
    · rw [wd_hi n h]
      have h1 := ih (n / 26 - 1) (by omega) (by omega)
      have hg : decide ((n : Int) < 26) = false := by simp; omega
      have hg2 : (26 : Int) ≤ (n : Int) := by omega
      have e1 : (n : Int).tdiv 26 = ((n / 26 : Nat) : Int) := by rw [Int.tdiv_eq_ediv_of_nonneg (by omega)]; rfl
      have e2 : (n : Int).tmod 26 = ((n % 26 : Nat) : Int) := by rw [Int.tmod_eq_emod_of_nonneg (by omega)]; rfl
      have b0 : 1 ≤ n / 26 := by omega
      have b1 : n / 26 < 1000000 := by omega
      have b2 : n % 26 < 26 := by omega
      clear ih
      generalize hqa : n / 26 = qa at h1 e1 b1 b0 ⊢
      generalize hqb : n % 26 = qb at e2 b2 ⊢
      clear hqa hqb
      obtain ⟨a, rfl⟩ : ∃ a, qa = a + 1 := ⟨qa - 1, by omega⟩
      rw [Nat.add_sub_cancel] at h1
      rw [Nat.add_sub_cancel]
      have l1 := wd_len a
      have e4 : IntKind.i64.wrap (qb : Int) = (qb : Int) := by rw [IntKind.wrap_i64]; omega
      have e6 : IntKind.i64.wrap (65 + (qb : Int)) = 65 + (qb : Int) := by rw [IntKind.wrap_i64]; omega
      have e7 : IntKind.u8.wrap (65 + (qb : Int)) = 65 + (qb : Int) := by rw [IntKind.wrap_u8]; omega
      have e5 : IntKind.i64.wrap ((a : Int) + 1) = (a : Int) + 1 := by rw [IntKind.wrap_i64]; omega
      have e9 : (a : Int) + 1 - 1 = (a : Int) := by omega
      have e3 : IntKind.i64.wrap (a : Int) = (a : Int) := by rw [IntKind.wrap_i64]; omega
      have e8 : IntKind.i64.wrap (IntKind.i64.wrap ((a : Int) + 1) - 1) = (a : Int) := by rw [e5, e9, e3]
      have ht : (((d8 65 qb).toNat : Nat) : Int) = 65 + (qb : Int) := by
        have : (d8 65 qb).toNat = 65 + qb := by simp only [d8, UInt8.toNat_ofNat']; omega
        rw [this]; omega
      have hU : ∀ W : World, W.cell? ⟨w.heap.size, 0, none⟩ = some (.int .u8 (65 + (qb : Int))) → (convert 38 9 (.slice (some ⟨w.heap.size, 0, none⟩) 1 1)).run Tryz.prog W = .ok (sv [d8 65 qb]) W := fun W hW => by
        refine run_convert_bytes_back W 38 9 5 ⟨w.heap.size, 0, none⟩ 1 [d8 65 qb] Tryz.underlying38 Tryz.underlying5 Tryz.underlying9 ?_
        intro j hj
        have hj0 : j = 0 := by simpa using hj
        subst hj0
        rw [Addr.add_mid]
        show W.cell? ⟨w.heap.size, 0 + 0, none⟩ = some (.int .u8 ((d8 65 qb).toNat : Nat))
        rw [ht]
        exact hW
      clear ht
      have hcv : ∀ W : World, (convert 38 9 (.slice (some ⟨W.heap.size, 0, none⟩) 1 1)).run Tryz.prog (W.alloc (.cells #[.int .u8 (65 + (qb : Int))] 5)) = .ok (sv [d8 65 qb]) (W.alloc (.cells #[.int .u8 (65 + (qb : Int))] 5)) := fun W => (d8_ck W qb b2).conv
      have hcw : (convert 38 9 (.slice (some ⟨w.heap.size, 0, none⟩) 1 1)).run Tryz.prog (w.alloc (.cells #[.int .u8 (65 + (qb : Int))] 5)) = .ok (sv [d8 65 qb]) (w.alloc (.cells #[.int .u8 (65 + (qb : Int))] 5)) := hcv w
      have hcd : (convert 38 9 (.slice (some ⟨w.heap.size, 0, none⟩) 1 1)).run Tryz.prog (w.drew.alloc (.cells #[.int .u8 (65 + (qb : Int))] 5)) = .ok (sv [d8 65 qb]) (w.drew.alloc (.cells #[.int .u8 (65 + (qb : Int))] 5)) := hcv w.drew
      have hcd2 : (convert 38 9 (.slice (some ⟨w.heap.size, 0, none⟩) 1 1)).run Tryz.prog (w.alloc (.cells #[.int .u8 (65 + (qb : Int))] 5)).drew = .ok (sv [d8 65 qb]) (w.alloc (.cells #[.int .u8 (65 + (qb : Int))] 5)).drew := hcv w.drew
      have hsz : (9223372036854775807 < (wd a).length + 1) = False := by simp; omega
      have HC : Hid (∀ W : World, (convert 38 9 (.slice (some ⟨W.heap.size, 0, none⟩) 1 1)).run Tryz.prog (W.alloc (.cells #[.int .u8 (65 + (qb : Int))] 5)) = .ok (sv [d8 65 qb]) (W.alloc (.cells #[.int .u8 (65 + (qb : Int))] 5))) := hcv
      have HU : Hid _ := hU
      clear hcv hU
      have hcell : (w.alloc (.cells #[.int .u8 (65 + (qb : Int))] 5)).cell? ⟨w.heap.size, 0, none⟩ = some (.int .u8 (65 + (qb : Int))) := (Box.new w 5 #[.int .u8 (65 + (qb : Int))]).cell 0
      have HCE : Hid _ := hcell
      clear hcell
      go_enter Tryz.func110, Tryz.ntmps110
      go_wp2_with fail
      go_region_law ((go_simp; go_at_call 110; go_must (refine (h1 _).mono ?_; rintro e w1 ⟨rfl, g1⟩; have hca := HC.out w1; first | (have hcb := HU.out w1 (gb_cellN g1 HCE.out)) | skip)))
      all_goals
        go_wp2_with fail
        go_ret
        refine ⟨?_, by first | exact gb_alloc (gb_trans (gb_drew (gb_refl _ _)) g1) _ | exact gb_trans (gb_alloc (gb_drew (gb_refl _ _)) _) g1 | exact gb_trans (gb_drew (gb_alloc (gb_refl _ _) _)) g1⟩
        show Ending.returned (Value.string ((⟨(wd a).toArray⟩ : ByteArray) ++ ⟨[d8 65 qb].toArray⟩)) = Ending.returned (sv (wd a ++ [d8 65 qb]))
        rw [ba_app]
end Go.Proofs.YtobegepebochkaaGreatDoor
namespace Go.Proofs.YtobegepebochkaaGreatDoor
open Go.RowKit
def HsT (w : World) (a : Option Addr) (xs : List Bs) : Prop :=
  0 < xs.length → ∃ g, a = some ⟨g, 0, none⟩ ∧ ∀ k, k < xs.length → w.cell? ⟨g, k, none⟩ = some (sv (xs.getD k []))
theorem HsT.of_row {w : World} {B n : Nat} {dv : Value} {xs : List Bs} (h : w.ownsRow B 9 1 dv n (xs.map sv)) : ∃ a c, dv = .slice a xs.length c ∧ HsT w a xs := by
  have hn : xs.length = n := by have := h.1; simpa using this
  subst hn
  obtain ⟨ao, cp, hdv, _, _, _, hpos⟩ := row_shape h
  subst hdv
  refine ⟨ao, cp, rfl, fun h0 => ?_⟩
  obtain ⟨g, rfl⟩ := hpos h0
  refine ⟨g, rfl, fun i hi => ?_⟩
  exact row_cell h i _ (by simp [List.getD, hi])
set_option maxRecDepth 100000 in
set_option maxHeartbeats 4000000 in
theorem texts_82q {w : World} {a b : Option Addr} {xs : List Bs} (h1 : HsT w a xs) (h2 : HsT w b xs) (c d : Nat) (hn : xs.length < 100000000) :
    Calls Tryz.prog 82 #[.slice a xs.length c, .slice b xs.length d] w fun y w' => y = .returned (.bool true) ∧ ∃ q, w' = w.drewN q := by
  go_enter Tryz.func82, Tryz.ntmps82
  go_wp2
  go_loopw [5] (fun v wr => ∃ k q : Nat, k ≤ xs.length ∧ v = .int .i64 k ∧ wr = w.drewN q) (fun v _ => xs.length - (intOf v).toNat)
  case atStart => exact ⟨0, 0, by omega, rfl, rfl⟩
  case round =>
    obtain ⟨k, q, hk, rfl, hg⟩ := hrel
    by_cases hlt : k < xs.length
    · obtain ⟨g1, rfl, hc1⟩ := h1 (by omega)
      obtain ⟨g2, rfl, hc2⟩ := h2 (by omega)
      have e1 : wr.cell? ⟨g1, k, none⟩ = some (sv (xs.getD k [])) := by rw [hg]; exact hc1 k hlt
      have e2 : wr.cell? ⟨g2, k, none⟩ = some (sv (xs.getD k [])) := by rw [hg]; exact hc2 k hlt
      have hib : (k : Int) < xs.length := by omega
      have HG : Hid (wr = w.drewN q) := hg
      generalize xs.getD k [] = z at *
      clear h1 h2 hc1 hc2 hg
      go_wp2
      go_quiet (fail)
      go_wp2
      exact ⟨⟨k + 1, q + nq, by omega, by go_num, by rw [HG.out, World.drewN_drewN]⟩, by simp [intOf]; omega⟩
    · obtain rfl : k = xs.length := by omega
      clear h1 h2
      have HG : Hid (wr = w.drewN q) := hg
      clear hg
      go_wp2
      go_ret
      exact ⟨rfl, q, HG.out⟩
end Go.Proofs.YtobegepebochkaaGreatDoor
