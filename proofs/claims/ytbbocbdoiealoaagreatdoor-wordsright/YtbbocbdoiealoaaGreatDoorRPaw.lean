import Derived.Test.YtbbocbdoiealoaaGreatDoorRP
import Derived.Deep.CutRange
import Derived.Deep.RegionLaw
import Derived.Deep.RegionHeld3
import Derived.Test.YtbbocbdoiealoaaGreatDoorRPas
import Derived.Test.YtbbocbdoiealoaaGreatDoorRE
import Derived.Test.YtbbocbdoiealoaaGreatDoorRUb
import Derived.Test.YtbbocbdoiealoaaGreatDoorRPar
import Derived.Test.YtbbocbdoiealoaaGreatDoorRPaq
import Derived.Lib.ParseIntBCases
set_option linter.unusedVariables false
set_option linter.unusedSimpArgs false
namespace Go.Proofs.YtbbocbdoiealoaaGreatDoor
open Go.RowKit Go.Maps
theorem line_10 {w : World} {gb : Nat} (hG : GM w gb rowL) (hE : Er w) (v : Value) (l : Bs) (hB : By w v l) :
    Calls Tryz.prog 68 #[.map (some gb), v] w fun e w' => LnP l w e w' := by
  rcases Nat.lt_or_ge 2048 l.length with hl | hl
  · exact line_up gb v l hB tooLong (by rw [if_neg (by decide)]; simp only [lineS, hl, if_true]) (fun W hW => begin_long gb v l (hB.kept hW) hl)
  · have h1 : ¬ 2048 < l.length := by omega
    cases hs : spl [] l with
    | nil => exact line_up gb v l hB [] (by rw [if_pos rfl]; simp only [lineS, h1, if_false, hs]) (fun W hW => begin_none gb v l (hB.kept hW) hl hs)
    | cons x ws =>
      cases hr : rowS x with
      | none => exact line_up gb v l hB [] (by rw [if_pos rfl]; simp only [lineS, h1, if_false, hs, hr]) (fun W hW => begin_no (hG.kept hW (by simp)) v l (hB.kept hW) hl x ws hs hr)
      | some r => exact line_read hG hE v l hB hl x ws hs r hr
set_option maxRecDepth 100000 in
set_option maxHeartbeats 4000000 in
theorem Line_6 {w : World} (hE : Er w) (v : Value) (l : Bs) (hB : By w v l) :
    Calls Tryz.prog 17 #[v] w fun e w' => LnP l w e w' := by
  obtain ⟨W2, hW2⟩ : ∃ W2, (w.alloc (.cells (Z31 0 false) 41)).alloc (.cells #[.int .i64 0, .string ⟨#[]⟩, .int .i64 0] 43) = W2 := ⟨_, rfl⟩
  have q1 : Box W2 41 w.heap.size (Z31 0 false) := by rw [← hW2]; exact (Box.new w 41 _).kept (gb_alloc (gb_refl _ none) _) (by simp)
  have q2 : Box W2 43 (w.heap.size + 1) #[.int .i64 0, .string ⟨#[]⟩, .int .i64 0] := by
    have := Box.new (w.alloc (.cells (Z31 0 false) 41)) 43 #[.int .i64 0, .string ⟨#[]⟩, .int .i64 0]
    simp only [World.size_alloc] at this
    rw [← hW2]; exact this
  have q3 : w.grownBy W2 none := by rw [← hW2]; exact gb_alloc (gb_alloc (gb_refl w none) _) _
  have h9 := rows_9 W2
  rw [show W2.heap.size = w.heap.size + 1 + 1 by rw [← hW2]; simp] at h9
  have h10 := fun W gb (hG : GM W gb rowL) hE (hB : By W v l) => line_10 hG hE v l hB
  obtain ⟨a, c0, rfl⟩ := hB.shape
  subst hW2
  go_enter Tryz.func17, Tryz.ntmps17
  go_wp2_with (first | (go_at_call 67; go_must ((with_reducible refine h9.mono ?_); rintro e w3 ⟨rfl, hG3, hg3⟩; (have hgw3 := gb_trans q3 hg3))) | (go_at_call 68; go_must ((with_reducible refine (h10 _ _ hG3 (hE.kept hgw3) (hB.kept hgw3)).mono ?_); rintro e w4 ⟨hL, hg4⟩; (have hg24 := gb_trans hg3 hg4); (have y1 := q1.kept hg24 (by simp)); (have y2 := q2.kept hg24 (by simp)); (have hs3 := hg3.size); (have cc0 : w4.cell? ⟨w.heap.size, 0, none⟩ = some (.int .i64 0) := y1.cell 0); (have cf0 := y1.fz 0); (have cc1 : w4.cell? ⟨w.heap.size, 1, none⟩ = some (.slice none 0 0) := y1.cell 1); (have cf1 := y1.fz 1); (have cc2 : w4.cell? ⟨w.heap.size, 2, none⟩ = some (.int .u64 0) := y1.cell 2); (have cf2 := y1.fz 2); (have cc3 : w4.cell? ⟨w.heap.size, 3, none⟩ = some (.int .i64 0) := y1.cell 3); (have cf3 := y1.fz 3); (have cc4 : w4.cell? ⟨w.heap.size, 4, none⟩ = some (.int .u64 0) := y1.cell 4); (have cf4 := y1.fz 4); (have cc5 : w4.cell? ⟨w.heap.size, 5, none⟩ = some (.int .u64 0) := y1.cell 5); (have cf5 := y1.fz 5); (have cc6 : w4.cell? ⟨w.heap.size, 6, none⟩ = some (.slice none 0 0) := y1.cell 6); (have cf6 := y1.fz 6); (have cc7 : w4.cell? ⟨w.heap.size, 7, none⟩ = some (.bool false) := y1.cell 7); (have cf7 := y1.fz 7); (have cc8 : w4.cell? ⟨w.heap.size, 8, none⟩ = some (.bool false) := y1.cell 8); (have cf8 := y1.fz 8); (have cc9 : w4.cell? ⟨w.heap.size, 9, none⟩ = some (.slice none 0 0) := y1.cell 9); (have cf9 := y1.fz 9); (have cc10 : w4.cell? ⟨w.heap.size, 10, none⟩ = some (.string ⟨#[]⟩) := y1.cell 10); (have cf10 := y1.fz 10); (have ec0 : w4.cell? ⟨w.heap.size + 1, 0, none⟩ = some (.int .i64 0) := y2.cell 0); (have ef0 := y2.fz 0); (have ec1 : w4.cell? ⟨w.heap.size + 1, 1, none⟩ = some (.string ⟨#[]⟩) := y2.cell 1); (have ef1 := y2.fz 1); (have ec2 : w4.cell? ⟨w.heap.size + 1, 2, none⟩ = some (.int .i64 0) := y2.cell 2); (have ef2 := y2.fz 2); rcases hL with ⟨c, n, kv, mv, hl, rfl, kr, mr⟩ | ⟨k, t, p, hl, rfl⟩; obtain ⟨ka, kc, rfl, -, -, -, -⟩ := row_shape kr; obtain ⟨ma, mc, rfl, -, -, -, -⟩ := row_shape mr)))
  · obtain ⟨x1, gx1⟩ := box11 (v0 := (.int .i64 c.verb)) (v1 := (.slice ka c.keys.length kc)) (v2 := (.int .u64 c.flags)) (v3 := (.int .i64 c.exp)) (v4 := (.int .u64 c.tok)) (v5 := (.int .u64 c.del)) (v6 := (.slice none 0 0)) (v7 := (.bool c.nr)) (v8 := (.bool false)) (v9 := (.slice ma c.mt.length mc)) (v10 := (.string ⟨c.what.toArray⟩)) y1
    have hkr := row_kept kr gx1 (fun k hk e => by injection e with e; have := (World.ownsRow.lt kr k hk).1; simp at hs3; omega)
    have hmr := row_kept mr gx1 (fun k hk e => by injection e with e; have := (World.ownsRow.lt mr k hk).1; simp at hs3; omega)
    have x2 := y2.kept gx1 (by simp)
    generalize (((((((((((w4.setCell ⟨w.heap.size, 0, none⟩ (.int .i64 c.verb)).setCell ⟨w.heap.size, 1, none⟩ (.slice ka c.keys.length kc)).setCell ⟨w.heap.size, 2, none⟩ (.int .u64 c.flags)).setCell ⟨w.heap.size, 3, none⟩ (.int .i64 c.exp)).setCell ⟨w.heap.size, 4, none⟩ (.int .u64 c.tok)).setCell ⟨w.heap.size, 5, none⟩ (.int .u64 c.del)).setCell ⟨w.heap.size, 6, none⟩ (.slice none 0 0)).setCell ⟨w.heap.size, 7, none⟩ (.bool c.nr)).setCell ⟨w.heap.size, 8, none⟩ (.bool false)).setCell ⟨w.heap.size, 9, none⟩ (.slice ma c.mt.length mc)).setCell ⟨w.heap.size, 10, none⟩ (.string ⟨c.what.toArray⟩)) = S1 at x1 gx1 hkr hmr x2 ⊢
    obtain ⟨z2, gz2⟩ := box3 (v0 := .int .i64 0) (v1 := .string ⟨#[]⟩) (v2 := .int .i64 0) x2
    have z1 := x1.kept gz2 (by simp)
    have hkr2 := row_kept hkr gz2 (fun k hk e => by injection e with e; have := (World.ownsRow.lt kr k hk).1; simp at hs3; omega)
    have hmr2 := row_kept hmr gz2 (fun k hk e => by injection e with e; have := (World.ownsRow.lt mr k hk).1; simp at hs3; omega)
    refine ⟨rfl, _, res6 z1 z2 _ rfl rfl rfl, .inl ⟨c, n, .slice ka c.keys.length kc, .slice ma c.mt.length mc, hl, rfl, row_base hkr2 (by simp at hs3; omega), row_base hmr2 (by simp at hs3; omega)⟩, ?_⟩
    exact gb_mine (gb_mine (gb_trans hgw3 hg4) gx1 (by omega)) gz2 (by omega)
  · obtain ⟨x1, gx1⟩ := box11 (v0 := (.int .i64 0)) (v1 := (.slice none 0 0)) (v2 := (.int .u64 0)) (v3 := (.int .i64 0)) (v4 := (.int .u64 0)) (v5 := (.int .u64 0)) (v6 := (.slice none 0 0)) (v7 := (.bool false)) (v8 := (.bool false)) (v9 := (.slice none 0 0)) (v10 := (.string ⟨#[]⟩)) y1
    have x2 := y2.kept gx1 (by simp)
    generalize (((((((((((w4.setCell ⟨w.heap.size, 0, none⟩ (.int .i64 0)).setCell ⟨w.heap.size, 1, none⟩ (.slice none 0 0)).setCell ⟨w.heap.size, 2, none⟩ (.int .u64 0)).setCell ⟨w.heap.size, 3, none⟩ (.int .i64 0)).setCell ⟨w.heap.size, 4, none⟩ (.int .u64 0)).setCell ⟨w.heap.size, 5, none⟩ (.int .u64 0)).setCell ⟨w.heap.size, 6, none⟩ (.slice none 0 0)).setCell ⟨w.heap.size, 7, none⟩ (.bool false)).setCell ⟨w.heap.size, 8, none⟩ (.bool false)).setCell ⟨w.heap.size, 9, none⟩ (.slice none 0 0)).setCell ⟨w.heap.size, 10, none⟩ (.string ⟨#[]⟩)) = S1 at x1 gx1 x2 ⊢
    obtain ⟨z2, gz2⟩ := box3 (v0 := .int .i64 k) (v1 := .string ⟨t.toArray⟩) (v2 := .int .i64 p) x2
    have z1 := x1.kept gz2 (by simp)
    refine ⟨rfl, _, res6 z1 z2 _ rfl rfl rfl, .inr ⟨k, t, p, hl, rfl⟩, ?_⟩
    exact gb_mine (gb_mine (gb_trans hgw3 hg4) gx1 (by omega)) gz2 (by omega)
end Go.Proofs.YtbbocbdoiealoaaGreatDoor
namespace Go.Proofs.YtbbocbdoiealoaaGreatDoor
open Go.RowKit Go.Maps
theorem Ck.conv {w : World} {X : Nat → Prop} {v : Value} {l : Bs} (h : Ck w X v l) : (convert 38 9 v).run Tryz.prog w = .ok (sv l) w := by
  rcases h with ⟨rfl, rfl⟩ | ⟨g, o, c, rfl, _, _, _, _, h4⟩
  · exact run_convert_bytes_nil w 38 5 Tryz.underlying38 Tryz.underlying5 0 0 9 Tryz.underlying9
  · refine run_convert_bytes_back w 38 9 5 ⟨g, o, none⟩ c l Tryz.underlying38 Tryz.underlying5 Tryz.underlying9 ?_
    intro j hj
    rw [Addr.add_mid]
    exact h4 j l[j] (List.getElem?_eq_getElem hj)
set_option maxRecDepth 100000 in
set_option maxHeartbeats 4000000 in
theorem eq_35 {w : World} {X Y : Nat → Prop} {a b : Value} {l : Bs} (hA : Ck w X a l) (hB : Ck w Y b l) :
    Calls Tryz.prog 37 #[a, b] w fun e w' => e = .returned (.bool true) ∧ w' = w := by
  have h1 := hA.conv
  have h2 := hB.conv
  obtain ⟨a1, n1, c1, rfl, -⟩ := hA.slice
  obtain ⟨a2, n2, c2, rfl, -⟩ := hB.slice
  go_enter Tryz.func37, Tryz.ntmps37
  go_wp2
  go_ret
  first
    | exact ⟨rfl, rfl⟩
    | exact ⟨by simp, rfl⟩
end Go.Proofs.YtbbocbdoiealoaaGreatDoor
namespace Go.Proofs.YtbbocbdoiealoaaGreatDoor
open Go.RowKit Go.Maps
def d8 (k n : Nat) : UInt8 := UInt8.ofNat (k + n)
def dg (n : Nat) : Bs := if h : n < 10 then [d8 48 n] else dg (n / 10) ++ dg (n % 10)
theorem dg_lo (n : Nat) (h : n < 10) : dg n = [d8 48 n] := by rw [dg, dif_pos h]
theorem dg_hi (n : Nat) (h : ¬ n < 10) : dg n = dg (n / 10) ++ dg (n % 10) := by rw [dg, dif_neg h]
def wd (n : Nat) : Bs := if h : n < 26 then [d8 65 n] else wd (n / 26 - 1) ++ [d8 65 (n % 26)]
end Go.Proofs.YtbbocbdoiealoaaGreatDoor
namespace Go.Proofs.YtbbocbdoiealoaaGreatDoor
abbrev isD (b : UInt8) : Prop := 48 ≤ b.toNat ∧ b.toNat ≤ 57
def val (acc : Nat) (l : Bs) : Nat := l.foldl (fun a c => a * 10 + (c.toNat - 48)) acc
theorem val_app (acc : Nat) (l m : Bs) : val acc (l ++ m) = val (val acc l) m := by simp [val]
theorem val_cons (acc : Nat) (b : UInt8) (m : Bs) : val acc (b :: m) = val (acc * 10 + (b.toNat - 48)) m := by simp [val]
theorem val_ge : ∀ (l : Bs) (acc : Nat), acc ≤ val acc l := by
  intro l
  induction l with
  | nil => intro acc; exact Nat.le_refl _
  | cons b t ih => intro acc; rw [val_cons]; have := ih (acc * 10 + (b.toNat - 48)); omega
theorem pu_ok (M : Nat) (hM : M ≤ 18446744073709551615) : ∀ (l : Bs) (acc : Nat), (∀ b ∈ l, isD b) → val acc l ≤ M → Lib.parseUintM M acc l = .ok (val acc l) := by
  intro l
  induction l with
  | nil => intro acc _ _; rfl
  | cons b t ih =>
    intro acc hd hv
    rw [val_cons] at hv ⊢
    have h1 := hd b (by simp)
    have h2 := val_ge t (acc * 10 + (b.toNat - 48))
    rw [Lib.parseUintM, if_pos h1, if_neg (by omega), if_neg (by omega)]
    exact ih _ (fun x hx => hd x (by simp [hx])) hv
theorem pu_digits (M : Nat) : ∀ (l : Bs) (acc u : Nat), Lib.parseUintM M acc l = .ok u → ∀ b ∈ l, isD b := by
  intro l
  induction l with
  | nil => intro acc u _ b hb; cases hb
  | cons c t ih =>
    intro acc u h b hb
    rw [Lib.parseUintM] at h
    split at h
    · rename_i h1
      split at h
      · cases h
      · split at h
        · cases h
        · rcases List.mem_cons.mp hb with rfl | hb
          · exact h1
          · exact ih _ _ h b hb
    · cases h
theorem d8_nat (n : Nat) (h : n < 10) : (d8 48 n).toNat = 48 + n := by simp only [d8, UInt8.toNat_ofNat']; omega
theorem dg_d : ∀ n, (∀ b ∈ dg n, isD b) ∧ dg n ≠ [] ∧ val 0 (dg n) = n := by
  intro n
  induction n using Nat.strongRecOn with
  | _ n ih =>
    by_cases h : n < 10
    · rw [dg_lo n h]
      refine ⟨?_, by simp, ?_⟩
      · intro b hb
        rcases List.mem_singleton.mp hb with rfl
        rw [isD, d8_nat n h]; omega
      · rw [val_cons, d8_nat n h]; simp [val]
    · have h1 := ih (n / 10) (by omega)
      have h2 := ih (n % 10) (by omega)
      rw [dg_hi n h]
      refine ⟨?_, by simp [h1.2.1], ?_⟩
      · intro b hb
        rcases List.mem_append.mp hb with hb | hb
        · exact h1.1 b hb
        · exact h2.1 b hb
      · rw [val_app, h1.2.2, dg_lo _ (by omega : n % 10 < 10), val_cons, d8_nat _ (by omega)]
        simp only [val, List.foldl_nil]; omega
theorem pu_dg (n : Nat) (h : n ≤ 18446744073709551615) : Lib.parseUintB 64 (dg n) = .ok n := by
  have hd := dg_d n
  rw [Lib.parseUintB, if_neg hd.2.1]
  have := pu_ok 18446744073709551615 (by omega) (dg n) 0 hd.1 (by rw [hd.2.2]; exact h)
  rw [hd.2.2] at this
  exact this
theorem nb_dg (most n : Nat) (h : n ≤ most) (hm : most ≤ 18446744073709551615) : nb most (dg n) = some n := by
  rw [nb, pu_dg n (by omega)]; simp [h]
def sg (t : Int) : Bs := if t < 0 then 45 :: dg t.natAbs else dg t.natAbs
theorem tm_sg (t : Int) (h1 : -9223372036854775808 ≤ t) (h2 : t ≤ 9223372036854775807) : tm (sg t) = some t := by
  have hp := pu_dg t.natAbs (by omega)
  by_cases h : t < 0
  · rw [sg, if_pos h, tm, Lib.parseIntB_minus, hp]
    have e : Lib.signedC (2 ^ (64 - 1)) (.ok t.natAbs) = .ok t := by
      simp only [Lib.signedC]
      rw [if_neg (by omega)]
      congr 1; omega
    rw [e]; rfl
  · rw [sg, if_neg h, tm]
    have hd := dg_d t.natAbs
    revert hd hp
    generalize hg : dg t.natAbs = l
    intro hp hd
    match l, hd.2.1 with
    | c :: r, _ =>
      have hc := hd.1 c (by simp)
      rw [isD] at hc
      rw [Lib.parseIntB_plain 64 c r (by omega) (by omega), hp]
      have e : Lib.signlessC (2 ^ (64 - 1)) (.ok t.natAbs) = .ok t := by
        simp only [Lib.signlessC]
        rw [if_neg (by omega)]
        congr 1; omega
      rw [e]
      have : c ≠ 43 := fun hh => by subst hh; simp at hc
      simp [this]
end Go.Proofs.YtbbocbdoiealoaaGreatDoor
