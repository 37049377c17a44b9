/-
  put.
-/
import Derived.Test.YtphhofbdekbggaaTi
namespace Go.Proofs.Ytphhofbdekbggaa
open Go.RowKit
set_option linter.unusedVariables false
set_option linter.unusedSimpArgs false

/-- A byte of a number. -/
def bt (z : Int) (i : Nat) : Int := z / 2 ^ (8 * i) % 256
/-- The first k bytes of a number in m bytes, the greatest first. -/
def encK (z : Int) (m k : Nat) : List Int := (List.range k).map fun j => bt z (m - 1 - j)
theorem encK_len (z : Int) (m k : Nat) : (encK z m k).length = k := by simp [encK]
theorem encK_succ (z : Int) (m k : Nat) : encK z m (k + 1) = encK z m k ++ [bt z (m - 1 - k)] := by simp [encK, List.range_succ]
def u8s (us : List Int) : List Value := us.map (Value.int .u8)
theorem u8s_app (a b : List Int) : u8s (a ++ b) = u8s a ++ u8s b := List.map_append
theorem gb_step {a b c : World} {r r' : Option Nat} (h : a.grownBy b r) (k : b.grownBy c r') (hr : ∀ i, r' = some i → r = some i ∨ a.heap.size ≤ i) : a.grownBy c r :=
  ⟨k.os.trans h.os, k.tape.trans h.tape, k.output.trans h.output, Nat.le_trans h.size k.size, fun i hi hn => (k.block i (Nat.lt_of_lt_of_le hi h.size) (fun e => by
    rcases hr i e.symm with h1 | h1
    · exact hn h1.symm
    · omega)).trans (h.block i hi hn)⟩
section
variable {w : World} {ops : Array Oper} {rest : List Oper} {o : Oper} {a : Act} {Q : Exit → Act → World → Prop}
theorem push5 (hgd : o.guard = none) (s x : Operand) (ho : o.op = .call { callee := .builtin .append, args := #[s, x], argTypes := #[45, 45] })
    (B : Nat) (v : Value) (n : Nat) (xs : List Value) (hs : a.eval s = v) (hown : w.ownsRow B 5 1 v n xs) (u : Int) (hx : a.eval x = .slice (some ⟨w.heap.size, 0, none⟩) 1 1) (hn : n ≤ 100000000000) (hB : B ≤ w.heap.size)
    (h : ∀ g cap w', w'.ownsRow B 5 1 (.slice (some ⟨g, 0, none⟩) (n + 1) cap) (n + 1) (xs ++ [.int .u8 u]) → w.grownBy w' v.ownBlock → (v.ownBlock = some g ∨ w.heap.size ≤ g) → wpList Try.prog ops Q rest (a.put o.dst (.slice (some ⟨g, 0, none⟩) (n + 1) cap)) w') : wpList Try.prog ops Q (o :: rest) a (w.alloc (.cells #[.int .u8 u] 5)) := by
  obtain ⟨i0, hi, hz0, hz1, hz2⟩ := info_parts Try.info5
  exact wpList_pushN hgd s x 45 ho 5 i0 _ 1 1 Try.underlying45 hi hz0 hz1 hz2 rfl (by omega) (by omega) B v n xs hs hown [.int .u8 u] rfl (by simp [Value.oneCell']) hx hn hB h
end
set_option maxHeartbeats 2000000 in
set_option maxRecDepth 100000 in
theorem put_38 {w : World} {B n : Nat} {v : Value} {us : List Int} (z : Int) (m : Nat) (hm : m ≤ 4) (h : w.ownsRow B 5 1 v n (u8s us)) (hl : n ≤ 10000000) (hB : B ≤ w.heap.size) :
    Calls Try.prog 38 #[v, .int .i64 z, .int .i64 m] w fun e w' => (∃ v', e = .returned v' ∧ w'.ownsRow B 5 1 v' (n + m) (u8s (us ++ encK z m m)) ∧ (∀ b, v'.ownBlock = some b → v.ownBlock = some b ∨ w.heap.size ≤ b)) ∧ w.grownBy w' v.ownBlock := by
  have hmw : IntKind.i64.wrap ((m : Int) - 1) = (m : Int) - 1 := by rw [IntKind.wrap_i64]; omega
  go_enter Try.func38, Try.ntmps38
  go_wp2_with fail
  go_loopw [0, 7] (fun x y wr => ∃ (k : Nat), k ≤ m ∧ y = .int .i64 ((m : Int) - 1 - k) ∧ wr.ownsRow B 5 1 x (n + k) (u8s (us ++ encK z m k)) ∧ (∀ b, x.ownBlock = some b → v.ownBlock = some b ∨ w.heap.size ≤ b) ∧ B ≤ wr.heap.size ∧ w.grownBy wr v.ownBlock) (fun _ y _ => (intOf y + 1).toNat)
  case atStart => exact ⟨0, by omega, by simp, by simpa [encK] using h, fun b hb => .inl hb, hB, gb_refl _ _⟩
  case round =>
    obtain ⟨k, hk, rfl, ho, hbk, hB3, hgr⟩ := hrel
    by_cases hlt : k < m
    · have HS : Hid (u8s (us ++ encK z m (k + 1)) = u8s (us ++ encK z m k) ++ [.int .u8 (bt z (m - 1 - k))]) := by
        show _ = _
        rw [encK_succ, ← List.append_assoc, u8s_app (us ++ encK z m k)]
        rfl
      have hii : (m : Int) - 1 - k = ((m - 1 - k : Nat) : Int) := by omega
      have hbt : bt z (m - 1 - k) = z / 2 ^ (8 * (m - 1 - k)) % 256 := rfl
      have him : m - 1 - k < 4 := by omega
      have HII : Hid (((m - 1 - k : Nat) : Int) - 1 = (m : Int) - 1 - (k + 1 : Nat)) := by
        show _ = _
        omega
      rw [hii]
      clear hii
      obtain ⟨xa, xc, rfl, _, _, _, _⟩ := row_shape ho
      have HBK : Hid (∀ b, (Value.slice xa (n + k) xc).ownBlock = some b → v.ownBlock = some b ∨ w.heap.size ≤ b) := hbk
      generalize hIv : m - 1 - k = i at *
      have hdd : decide ((0 : Int) ≤ (i : Int)) = true := by simp
      have h8w : IntKind.i64.wrap (8 * (i : Int)) = 8 * (i : Int) := by rw [IntKind.wrap_i64]; omega
      have h8n : (0 : Int) ≤ 8 * (i : Int) := by omega
      have hiw : IntKind.i64.wrap ((i : Int) - 1) = (i : Int) - 1 := by rw [IntKind.wrap_i64]; omega
      have hbl : n + k ≤ 100000000000 := by omega
      clear hmw h hbk hIv
      go_wp2_with (at_builtin; rw [← hbt]; go_must (refine push5 rfl _ _ rfl B _ (n + k) (u8s (us ++ encK z m k)) (by rfl) ho (bt z i) (by rfl) hbl hB3 ?_); intro g2 cap2 w2 h1 h2 h3)
      go_roundw
      case rel =>
        refine ⟨k + 1, by omega, by rw [HII.out], by rw [HS.out]; exact h1, fun b hb => ?_, Nat.le_trans hB3 h2.size, gb_step hgr h2 HBK.out⟩
        simp only [Value.ownBlock, Option.some.injEq] at hb
        subst hb
        rcases h3 with h3 | h3
        · exact HBK.out _ h3
        · exact .inr (Nat.le_trans hgr.size h3)
      case measure =>
        simp [intOf]
    · obtain rfl : k = m := by omega
      have hdd : decide ((0 : Int) ≤ (k : Int) - 1 - k) = false := by simp; omega
      clear hmw h
      go_wp2_with fail
      go_ret
      exact ⟨⟨_, rfl, ho, hbk⟩, hgr⟩
end Go.Proofs.Ytphhofbdekbggaa
