import Derived.Deep.LoopGhost
import Derived.Test.YtobegepebochkaaGreatDoorVPaj
import Derived.Test.YtobegepebochkaaGreatDoorVPae
import Derived.Test.YtobegepebochkaaGreatDoorVPap
import Derived.Deep.CutRange
import Derived.Test.YtobegepebochkaaGreatDoorVE
set_option linter.unusedVariables false
set_option linter.unusedSimpArgs false
namespace Go.Proofs.YtobegepebochkaaGreatDoor
open Go.RowKit Go.Maps
theorem size41 : (Tryz.prog.info? 41).map (·.size) = some 11 := by kernel_rfl
section
variable {w : World} {ops : Array Oper} {rest : List Oper} {op : Oper} {a : Act} {Q : Exit → Act → World → Prop}
theorem atS (T : TypeId) {x y : Operand} (b o : Nat) (ho : op.op = .store T x y) (hx : a.eval x = .pointer (some ⟨b, o, none⟩)) (h : wpList Tryz.prog ops Q (op :: rest) a w) : wpList Tryz.prog ops Q (op :: rest) a w := h
theorem atL (T : TypeId) {x : Operand} (b o : Nat) (ho : op.op = .load T x) (hx : a.eval x = .pointer (some ⟨b, o, none⟩)) (h : wpList Tryz.prog ops Q (op :: rest) a w) : wpList Tryz.prog ops Q (op :: rest) a w := h
theorem storeT (T n : Nat) (hsz : (Tryz.prog.info? T).map (·.size) = some n) (hgd : op.guard = none) (x y : Operand) (ho : op.op = .store T x y) (t b o : Nat) (vs : Array Value) (hb : Box w t b vs) (hn : o + n ≤ vs.size)
    (hx : a.eval x = .pointer (some ⟨b, o, none⟩)) (cs : Array Value) (hy : a.eval y = .agg cs) (hs : cs.size = n) (h1 : cs.all (·.oneCell') = true)
    (h : ∀ W, Box W t b (sets vs o cs.toList) → w.grownBy W (some b) → wpList Tryz.prog ops Q rest (a.put op.dst undef) W) : wpList Tryz.prog ops Q (op :: rest) a w := by
  refine wpList_store_mid hgd T x y ho b o cs hx hy (by rw [hs]; exact hb.there o n hn) (by rw [hs]; exact hsz) h1 ?_
  exact h _ (hb.sets _ _) (gb_setCells _ _ (gb_refl _ _))
theorem load41 (hgd : op.guard = none) (x : Operand) (ho : op.op = .load 41 x) (t b o : Nat) (vs : Array Value) (hb : Box w t b vs) (hx : a.eval x = .pointer (some ⟨b, o, none⟩)) (cs : List Value) (hs : cs.length = 11) (hc : ∀ j v, cs[j]? = some v → vs[o + j]? = some v)
    (h : wpList Tryz.prog ops Q rest (a.put op.dst (.agg cs.toArray)) w) : wpList Tryz.prog ops Q (op :: rest) a w :=
  wpList_load_mid hgd 41 x ho b o hx cs _ (fun j v hv => by rw [hb.cell]; exact hc j v hv) Tryz.underlying41 rfl (by rw [hs]; exact size41) h
end
theorem sets_41 (u0 u1 u2 u3 u4 u5 u6 u7 u8 u9 u10 v0 v1 v2 v3 v4 v5 v6 v7 v8 v9 v10 : Value) : sets #[u0, u1, u2, u3, u4, u5, u6, u7, u8, u9, u10] 0 [v0, v1, v2, v3, v4, v5, v6, v7, v8, v9, v10] = #[v0, v1, v2, v3, v4, v5, v6, v7, v8, v9, v10] := by
  simp only [sets, List.setIfInBounds_toArray, List.set_cons_zero, List.set_cons_succ]
end Go.Proofs.YtobegepebochkaaGreatDoor
namespace Go.Proofs.YtobegepebochkaaGreatDoor
open Go.RowKit Go.Maps
attribute [local go_sem] Oper.semAt_some
def spn (i : Nat) : Bs := (rowL.map Prod.fst).getD i []
theorem size186 : (Tryz.prog.info? 186).map (·.size) = some 24 := by kernel_rfl
theorem Tryz.info186 : (Tryz.prog.info? 186).map (fun i => (i.zero, i.size, i.bytes)) = some (some (.agg #[.string ⟨#[]⟩, .string ⟨#[]⟩, .string ⟨#[]⟩, .string ⟨#[]⟩, .string ⟨#[]⟩, .string ⟨#[]⟩, .string ⟨#[]⟩, .string ⟨#[]⟩, .string ⟨#[]⟩, .string ⟨#[]⟩, .string ⟨#[]⟩, .string ⟨#[]⟩, .string ⟨#[]⟩, .string ⟨#[]⟩, .string ⟨#[]⟩, .string ⟨#[]⟩, .string ⟨#[]⟩, .string ⟨#[]⟩, .string ⟨#[]⟩, .string ⟨#[]⟩, .string ⟨#[]⟩, .string ⟨#[]⟩, .string ⟨#[]⟩, .string ⟨#[]⟩]), 24, 384) := by kernel_rfl
theorem spn_at : ∀ k : Nat, k < 24 → (#[.string ⟨#[103, 101, 116]⟩, .string ⟨#[103, 101, 116, 115]⟩, .string ⟨#[103, 97, 116]⟩, .string ⟨#[103, 97, 116, 115]⟩, .string ⟨#[115, 101, 116]⟩, .string ⟨#[97, 100, 100]⟩, .string ⟨#[114, 101, 112, 108, 97, 99, 101]⟩, .string ⟨#[97, 112, 112, 101, 110, 100]⟩, .string ⟨#[112, 114, 101, 112, 101, 110, 100]⟩, .string ⟨#[99, 97, 115]⟩, .string ⟨#[100, 101, 108, 101, 116, 101]⟩, .string ⟨#[105, 110, 99, 114]⟩, .string ⟨#[100, 101, 99, 114]⟩, .string ⟨#[116, 111, 117, 99, 104]⟩, .string ⟨#[102, 108, 117, 115, 104, 95, 97, 108, 108]⟩, .string ⟨#[118, 101, 114, 115, 105, 111, 110]⟩, .string ⟨#[118, 101, 114, 98, 111, 115, 105, 116, 121]⟩, .string ⟨#[113, 117, 105, 116]⟩, .string ⟨#[115, 116, 97, 116, 115]⟩, .string ⟨#[109, 103]⟩, .string ⟨#[109, 115]⟩, .string ⟨#[109, 100]⟩, .string ⟨#[109, 97]⟩, .string ⟨#[109, 110]⟩] : Array Value)[k]? = some (sv (spn k))
  | 0, _ => rfl
  | 1, _ => rfl
  | 2, _ => rfl
  | 3, _ => rfl
  | 4, _ => rfl
  | 5, _ => rfl
  | 6, _ => rfl
  | 7, _ => rfl
  | 8, _ => rfl
  | 9, _ => rfl
  | 10, _ => rfl
  | 11, _ => rfl
  | 12, _ => rfl
  | 13, _ => rfl
  | 14, _ => rfl
  | 15, _ => rfl
  | 16, _ => rfl
  | 17, _ => rfl
  | 18, _ => rfl
  | 19, _ => rfl
  | 20, _ => rfl
  | 21, _ => rfl
  | 22, _ => rfl
  | 23, _ => rfl
  | n + 24, h => absurd h (by omega)
set_option maxRecDepth 100000 in
set_option maxHeartbeats 4000000 in
theorem spelled_95 (i : Nat) (hi : i < 24) (w : World) : Calls Tryz.prog 95 #[.int .i64 ((i : Int) + 1)] w fun e w' => e = .returned (sv (spn i)) ∧ w.grownBy w' none := by
  obtain ⟨i0, hi0, hz0, hz1, hz2⟩ := info_parts Tryz.info186
  have e1 : IntKind.i64.wrap ((i : Int) + 1 - 1) = i := by rw [IntKind.wrap_i64]; omega
  have e2 : (i : Int) + 1 - 1 = i := by omega
  have d1 : (i : Int) < 24 := by omega
  have ga := World.grownBy_alloc w (.cells #[.string ⟨#[]⟩, .string ⟨#[]⟩, .string ⟨#[]⟩, .string ⟨#[]⟩, .string ⟨#[]⟩, .string ⟨#[]⟩, .string ⟨#[]⟩, .string ⟨#[]⟩, .string ⟨#[]⟩, .string ⟨#[]⟩, .string ⟨#[]⟩, .string ⟨#[]⟩, .string ⟨#[]⟩, .string ⟨#[]⟩, .string ⟨#[]⟩, .string ⟨#[]⟩, .string ⟨#[]⟩, .string ⟨#[]⟩, .string ⟨#[]⟩, .string ⟨#[]⟩, .string ⟨#[]⟩, .string ⟨#[]⟩, .string ⟨#[]⟩, .string ⟨#[]⟩] 186) none
  have hat := spn_at i hi
  obtain ⟨x, hx⟩ : ∃ x, spn i = x := ⟨_, rfl⟩
  rw [hx] at hat ⊢
  clear hx
  go_enter Tryz.func95, Tryz.ntmps95
  go_upto_region 2 with (first
    | (refine atS 186 w.heap.size 0 rfl rfl ?_; go_must (refine storeT 186 24 size186 rfl _ _ rfl 186 w.heap.size 0 _ (Box.new w 186 #[.string ⟨#[]⟩, .string ⟨#[]⟩, .string ⟨#[]⟩, .string ⟨#[]⟩, .string ⟨#[]⟩, .string ⟨#[]⟩, .string ⟨#[]⟩, .string ⟨#[]⟩, .string ⟨#[]⟩, .string ⟨#[]⟩, .string ⟨#[]⟩, .string ⟨#[]⟩, .string ⟨#[]⟩, .string ⟨#[]⟩, .string ⟨#[]⟩, .string ⟨#[]⟩, .string ⟨#[]⟩, .string ⟨#[]⟩, .string ⟨#[]⟩, .string ⟨#[]⟩, .string ⟨#[]⟩, .string ⟨#[]⟩, .string ⟨#[]⟩, .string ⟨#[]⟩]) (by simp) rfl _ rfl rfl (by simp [Value.oneCell']) ?_); intro W B g))
  rw [show sets #[.string ⟨#[]⟩, .string ⟨#[]⟩, .string ⟨#[]⟩, .string ⟨#[]⟩, .string ⟨#[]⟩, .string ⟨#[]⟩, .string ⟨#[]⟩, .string ⟨#[]⟩, .string ⟨#[]⟩, .string ⟨#[]⟩, .string ⟨#[]⟩, .string ⟨#[]⟩, .string ⟨#[]⟩, .string ⟨#[]⟩, .string ⟨#[]⟩, .string ⟨#[]⟩, .string ⟨#[]⟩, .string ⟨#[]⟩, .string ⟨#[]⟩, .string ⟨#[]⟩, .string ⟨#[]⟩, .string ⟨#[]⟩, .string ⟨#[]⟩, .string ⟨#[]⟩] 0 ((#[.string ⟨#[103, 101, 116]⟩, .string ⟨#[103, 101, 116, 115]⟩, .string ⟨#[103, 97, 116]⟩, .string ⟨#[103, 97, 116, 115]⟩, .string ⟨#[115, 101, 116]⟩, .string ⟨#[97, 100, 100]⟩, .string ⟨#[114, 101, 112, 108, 97, 99, 101]⟩, .string ⟨#[97, 112, 112, 101, 110, 100]⟩, .string ⟨#[112, 114, 101, 112, 101, 110, 100]⟩, .string ⟨#[99, 97, 115]⟩, .string ⟨#[100, 101, 108, 101, 116, 101]⟩, .string ⟨#[105, 110, 99, 114]⟩, .string ⟨#[100, 101, 99, 114]⟩, .string ⟨#[116, 111, 117, 99, 104]⟩, .string ⟨#[102, 108, 117, 115, 104, 95, 97, 108, 108]⟩, .string ⟨#[118, 101, 114, 115, 105, 111, 110]⟩, .string ⟨#[118, 101, 114, 98, 111, 115, 105, 116, 121]⟩, .string ⟨#[113, 117, 105, 116]⟩, .string ⟨#[115, 116, 97, 116, 115]⟩, .string ⟨#[109, 103]⟩, .string ⟨#[109, 115]⟩, .string ⟨#[109, 100]⟩, .string ⟨#[109, 97]⟩, .string ⟨#[109, 110]⟩] : Array Value)).toList = #[.string ⟨#[103, 101, 116]⟩, .string ⟨#[103, 101, 116, 115]⟩, .string ⟨#[103, 97, 116]⟩, .string ⟨#[103, 97, 116, 115]⟩, .string ⟨#[115, 101, 116]⟩, .string ⟨#[97, 100, 100]⟩, .string ⟨#[114, 101, 112, 108, 97, 99, 101]⟩, .string ⟨#[97, 112, 112, 101, 110, 100]⟩, .string ⟨#[112, 114, 101, 112, 101, 110, 100]⟩, .string ⟨#[99, 97, 115]⟩, .string ⟨#[100, 101, 108, 101, 116, 101]⟩, .string ⟨#[105, 110, 99, 114]⟩, .string ⟨#[100, 101, 99, 114]⟩, .string ⟨#[116, 111, 117, 99, 104]⟩, .string ⟨#[102, 108, 117, 115, 104, 95, 97, 108, 108]⟩, .string ⟨#[118, 101, 114, 115, 105, 111, 110]⟩, .string ⟨#[118, 101, 114, 98, 111, 115, 105, 116, 121]⟩, .string ⟨#[113, 117, 105, 116]⟩, .string ⟨#[115, 116, 97, 116, 115]⟩, .string ⟨#[109, 103]⟩, .string ⟨#[109, 115]⟩, .string ⟨#[109, 100]⟩, .string ⟨#[109, 97]⟩, .string ⟨#[109, 110]⟩] from rfl] at B
  have hc : W.cell? ⟨w.heap.size, i, none⟩ = some (sv x) := by rw [B.cell]; exact hat
  have G : w.grownBy W none := gb_mine ga g (Nat.le_refl _)
  clear hat B g ga hi0 hz0 hz1 hz2
  generalize (Value.agg #[.string ⟨#[103, 101, 116]⟩, .string ⟨#[103, 101, 116, 115]⟩, .string ⟨#[103, 97, 116]⟩, .string ⟨#[103, 97, 116, 115]⟩, .string ⟨#[115, 101, 116]⟩, .string ⟨#[97, 100, 100]⟩, .string ⟨#[114, 101, 112, 108, 97, 99, 101]⟩, .string ⟨#[97, 112, 112, 101, 110, 100]⟩, .string ⟨#[112, 114, 101, 112, 101, 110, 100]⟩, .string ⟨#[99, 97, 115]⟩, .string ⟨#[100, 101, 108, 101, 116, 101]⟩, .string ⟨#[105, 110, 99, 114]⟩, .string ⟨#[100, 101, 99, 114]⟩, .string ⟨#[116, 111, 117, 99, 104]⟩, .string ⟨#[102, 108, 117, 115, 104, 95, 97, 108, 108]⟩, .string ⟨#[118, 101, 114, 115, 105, 111, 110]⟩, .string ⟨#[118, 101, 114, 98, 111, 115, 105, 116, 121]⟩, .string ⟨#[113, 117, 105, 116]⟩, .string ⟨#[115, 116, 97, 116, 115]⟩, .string ⟨#[109, 103]⟩, .string ⟨#[109, 115]⟩, .string ⟨#[109, 100]⟩, .string ⟨#[109, 97]⟩, .string ⟨#[109, 110]⟩]) = V4
  go_wp2_with fail
  exact bodyPost_ret (v := sv x) (results_tmp Tryz.results95 _ _ _) rfl ⟨rfl, G⟩
end Go.Proofs.YtobegepebochkaaGreatDoor
namespace Go.Proofs.YtobegepebochkaaGreatDoor
open Go.RowKit
def rn (most : Nat) : Nat → Bool → Bs → Option Nat
  | n, ok, [] => if ok then some n else none
  | n, ok, c :: r =>
    if c.toNat < 48 ∨ 57 < c.toNat then none else
    if (18446744073709551615 - (c.toNat - 48)) / 10 < n then rn most 0 false r else
    rn most (10 * n + (c.toNat - 48)) (ok && decide (10 * n + (c.toNat - 48) ≤ most)) r
theorem rn_false (most : Nat) : ∀ (l : Bs) (n : Nat), rn most n false l = none
  | [], n => rfl
  | c :: r, n => by
    simp only [rn, Bool.false_and]
    split
    · rfl
    · split <;> exact rn_false most r _
theorem pu_ge (M : Nat) : ∀ (l : Bs) (n u : Nat), Lib.parseUintM M n l = .ok u → n ≤ u
  | [], n, u, h => by simp [Lib.parseUintM] at h; omega
  | c :: r, n, u, h => by
    simp only [Lib.parseUintM] at h
    split at h
    · split at h
      · cases h
      · split at h
        · cases h
        · have := pu_ge M r _ u h; omega
    · cases h
theorem rn_true (most : Nat) : ∀ (l : Bs) (n : Nat), n ≤ most → n ≤ 18446744073709551615 →
    rn most n true l = (match Lib.parseUintM (2 ^ 64 - 1) n l with | .ok u => if u ≤ most then some u else none | _ => none)
  | [], n, h1, h2 => by simp [rn, Lib.parseUintM, h1]
  | c :: r, n, h1, h2 => by
    simp only [rn, Lib.parseUintM, Bool.true_and]
    by_cases hc : c.toNat < 48 ∨ 57 < c.toNat
    · have hd : ¬ (48 ≤ c.toNat ∧ c.toNat ≤ 57) := by omega
      rw [if_pos hc, if_neg hd]
    · have hd : 48 ≤ c.toNat ∧ c.toNat ≤ 57 := by omega
      rw [if_neg hc, if_pos hd]
      by_cases hb : (18446744073709551615 - (c.toNat - 48)) / 10 < n
      · rw [if_pos hb, rn_false]
        by_cases h3 : 1844674407370955162 ≤ n
        · rw [if_pos h3]
        · have h4 : 2 ^ 64 - 1 < n * 10 + (c.toNat - 48) := by omega
          rw [if_neg h3, if_pos h4]
      · have h4 : ¬ 1844674407370955162 ≤ n := by omega
        have h5 : ¬ 2 ^ 64 - 1 < n * 10 + (c.toNat - 48) := by omega
        rw [if_neg hb, if_neg h4, if_neg h5]
        by_cases h3 : 10 * n + (c.toNat - 48) ≤ most
        · rw [decide_eq_true h3, rn_true most r _ h3 (by omega), show n * 10 = 10 * n by omega]
        · rw [decide_eq_false h3, rn_false]
          split
          · rename_i u hu
            have := pu_ge _ _ _ _ hu
            rw [if_neg (by omega)]
          · rfl
theorem rn_nb (most : Nat) (l : Bs) : rn most 0 (decide (l ≠ [])) l = nb most l := by
  cases l with
  | nil => rfl
  | cons c r =>
    rw [decide_eq_true (by simp), rn_true most _ 0 (by omega) (by omega)]
    simp only [nb, Lib.parseUintB]
    rw [if_neg (by simp)]
    cases Lib.parseUintM (2 ^ 64 - 1) 0 (c :: r) <;> rfl
set_option maxHeartbeats 2000000 in
theorem number_96 (l : Bs) (hl : l.length ≤ 4611686018427387904) (m : Int) (most : Nat) (hmm : m = (most : Int)) (hm : most ≤ 18446744073709551615) (w : World) :
    Calls Tryz.prog 96 #[sv l, .int .u64 m] w fun e w' => e = .returned (.tuple #[.int .u64 ((nb most l).getD 0 : Nat), .bool (nb most l).isSome]) ∧ w' = w := by
  subst hmm
  have hn := rn_nb most l
  obtain ⟨R, hR⟩ : ∃ R, nb most l = R := ⟨_, rfl⟩
  rw [hR] at hn ⊢
  have hs : (ByteArray.mk l.toArray).size = l.length := ba_size l
  clear hR
  go_enter Tryz.func96, Tryz.ntmps96
  go_wp2
  go_loopw [6, 7, 8] (fun v6 v7 v8 wr => ∃ (k n : Nat) (ok : Bool), k ≤ l.length ∧ v6 = .int .u64 n ∧ v7 = .bool ok ∧ v8 = .int .i64 k ∧ wr = w ∧ n ≤ 18446744073709551615 ∧ rn most n ok (l.drop k) = R) (fun _ _ v8 _ => l.length - (intOf v8).toNat)
  case atStart => exact ⟨0, 0, !l.isEmpty, by omega, rfl, rfl, rfl, rfl, by omega, by rw [List.drop_zero, ← hn]; congr 1; cases l <;> rfl⟩
  case round =>
    obtain ⟨k, n, ok, hk, rfl, rfl, rfl, rfl, hn2, hr⟩ := hrel
    have hlt : k < l.length ∨ k = l.length := by omega
    rcases hlt with hlt | rfl
    · have d1 : decide ((k : Int) < (l.length : Int)) = true := decide_eq_true (by omega)
      obtain ⟨b, hb⟩ : ∃ b, l.getD k 0 = b := ⟨_, rfl⟩
      have hg : ∀ h : k < (ByteArray.mk l.toArray).size, (ByteArray.mk l.toArray)[k] = b := fun h => (ba_get l k h).trans hb
      have hdr : l.drop k = b :: l.drop (k + 1) := by
        rw [List.drop_eq_getElem_cons hlt, ← hb]; simp [List.getD, hlt]
      rw [hdr] at hr
      simp only [rn] at hr
      clear hdr hb
      go_wp2
      · rename_i h1 h2
        have e : R = none := by rw [← hr, if_pos (by omega)]
        rw [e]
        go_ret2
        exact ⟨rfl, rfl⟩
      · rename_i h0 h1 h2
        refine ⟨⟨k + 1, 0, false, by omega, rfl, rfl, rfl, trivial, by omega, ?_⟩, by simp [intOf]; omega⟩
        rw [← hr, if_neg (by omega), if_pos (by omega)]
      · rename_i h0 h1 h2 h3
        subst h3
        refine ⟨⟨k + 1, 10 * n + (b.toNat - 48), decide (10 * n + (b.toNat - 48) ≤ most), by omega, ?_, ?_, rfl, trivial, by omega, ?_⟩, by simp [intOf]; omega⟩
        · congr 1; omega
        · congr 1; exact decide_eq_decide.2 (by omega)
        · rw [← hr, if_neg (by omega), if_neg (by omega), Bool.true_and]
      · rename_i h0 h1 h2 h3
        obtain rfl : ok = false := by simpa using h3
        refine ⟨⟨k + 1, 10 * n + (b.toNat - 48), false, by omega, ?_, rfl, rfl, trivial, by omega, ?_⟩, by simp [intOf]; omega⟩
        · congr 1; omega
        · rw [← hr, if_neg (by omega), if_neg (by omega), Bool.false_and]
      · rename_i h1
        have e : R = none := by rw [← hr, if_pos (by omega)]
        rw [e]
        go_ret2
        exact ⟨rfl, rfl⟩
    · rw [List.drop_length] at hr
      simp only [rn] at hr
      go_wp2
      · rename_i h1
        have e : R = none := by rw [← hr, if_neg (by simpa using h1)]
        rw [e]
        go_ret2
        exact ⟨rfl, rfl⟩
      · rename_i h1
        have e : R = some n := by rw [← hr, if_pos (by simpa using h1)]
        rw [e]
        go_ret2
        exact ⟨rfl, rfl⟩
end Go.Proofs.YtobegepebochkaaGreatDoor
