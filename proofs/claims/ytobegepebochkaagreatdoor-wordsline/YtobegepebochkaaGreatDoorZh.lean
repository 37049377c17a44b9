import Derived.Test.YtobegepebochkaaGreatDoorH
import Derived.RangeFuncNested
import Derived.RangeFuncBound
import Derived.RangeFuncCalls
import Derived.RangeFuncLeaves
import Derived.Shelf.Abstract
import Derived.Shelf.RegionOpen
import Derived.WalkKit
import Derived.OwnWalkIn
import Derived.TacticsInMore
import Derived.LoopNIn
import Derived.LoopIn
import Derived.Maps.AppendAt
import Derived.Maps.OwnOps
/-
  Read, whole; Pass.
-/
namespace Go.Proofs.YtobegepebochkaaGreatDoor
open Go.RowKit
set_option linter.unusedVariables false
set_option linter.unusedSimpArgs false

set_option maxRecDepth 100000 in
set_option maxHeartbeats 4000000 in
theorem read_0f {w : World} (rv0 : Int) (rw0 rm0 : Bs) (re0 rq0 : Bool) (hR : Rok ⟨rv0, rw0, rm0, re0, rq0⟩) (hq : rq0 = false) (a : Option Addr) (cp : Nat) (hE : Er w) :
    Calls Tryz.prog 103 #[rv ⟨rv0, rw0, rm0, re0, rq0⟩, .slice a 0 cp] w fun e w' => RdP ⟨rv0, rw0, rm0, re0, rq0⟩ [] w e w' := by
  subst hq
  have hrd : readS ⟨rv0, rw0, rm0, re0, false⟩ [] = rdV ⟨rv0, rw0, rm0, re0, false⟩ false [] := by
    have : qt ⟨rv0, rw0, rm0, re0, false⟩ [] = false := by simp [qt]
    simp [readS, rdV, this]
  obtain ⟨hM3, hr3, hrB, hgw3⟩ := rd0 w rv0 rw0 rm0 re0 false false
  have d0 : decide ((rw0.length : Int) ≤ -1) = false := decide_eq_false (by omega)
  have hRok := hR.le
  have hT : ∀ W, Calls Tryz.prog 143 #[rv ⟨rv0, rw0, rm0, re0, false⟩, .int .i64 0] W fun e w' => e = .returned (.bool (takes ⟨rv0, rw0, rm0, re0, false⟩ 0)) ∧ W.grownBy w' none := fun W => takes_31 ⟨rv0, rw0, rm0, re0, false⟩ 0 (by omega) hRok.1 hRok.2 W
  obtain ⟨tk, htk⟩ : ∃ tk, takes ⟨rv0, rw0, rm0, re0, false⟩ 0 = tk := ⟨_, rfl⟩
  simp only [htk] at hT
  cases tk with
  | false =>
    have HR : Hid (readS ⟨rv0, rw0, rm0, re0, false⟩ [] = .inr badLine) := by
      show _ = _
      rw [hrd]; simp [rdV, htk]
    clear hrd htk hrB hM3 hr3
    go_enter Tryz.func103, Tryz.ntmps103
    go_wp2_with (first | (go_at_call 143; with_reducible refine (hT _).mono ?_; rintro e w4 ⟨rfl, hg4⟩) | (go_at_call 141; with_reducible refine (giveUp_27 _ _).mono ?_; rintro e w5 ⟨rfl, rfl⟩))
    exact ⟨rfl, .inr ⟨_, HR.out, rfl⟩, gb_trans hgw3 hg4⟩
  | true =>
    have HR : Hid (readS ⟨rv0, rw0, rm0, re0, false⟩ [] = .inl (cmd0 rv0 false)) := by
      show _ = _
      rw [hrd]; simp only [rdV, List.length_nil, htk, if_true]; rfl
    clear hrd
    have h34 := fun W => flags_nil rv0 none 0 W
    go_enter Tryz.func103, Tryz.ntmps103
    go_wp2_with (first | (go_at_call 143; with_reducible refine (hT _).mono ?_; rintro e w4 ⟨rfl, hg4⟩; (have h4 := hM3.kept hg4); (have hr4 := hr3.kept hg4 (by simp)); (have hrB4 := hrB.kept hg4 (by simp)); (have hgw4 := gb_trans hgw3 hg4); clear hM3 hr3 hg4 hgw3 hrB hT))
    go_loopw [44] (fun x wr => x = .int .i64 0 ∧ wr = w4) (fun _ _ => 0)
    case atStart => exact ⟨rfl, rfl⟩
    case round =>
      obtain ⟨rfl, rfl⟩ := hrel
      have y0 : wr.cell? ⟨w.heap.size, 0, none⟩ = some (.int .i64 rv0) := hr4.cell 0
      have y9 : wr.cell? ⟨w.heap.size + 1 + 1, 9, none⟩ = some (.slice none 0 0) := h4.box.cell 9
      go_wp2_with (go_at_call 37; go_must ((with_reducible refine (h34 _).mono ?_); rintro e w7 ⟨rfl, hg7⟩; (have m0 : w7.cell? ⟨w.heap.size + 1 + 1, 0, none⟩ = some (.int .i64 rv0) := (h4.kept hg7).box.cell 0); (have m1 : w7.cell? ⟨w.heap.size + 1 + 1, 1, none⟩ = some (.slice none 0 0) := (h4.kept hg7).box.cell 1); (have m2 : w7.cell? ⟨w.heap.size + 1 + 1, 2, none⟩ = some (.int .u64 0) := (h4.kept hg7).box.cell 2); (have m3 : w7.cell? ⟨w.heap.size + 1 + 1, 3, none⟩ = some (.int .i64 0) := (h4.kept hg7).box.cell 3); (have m4 : w7.cell? ⟨w.heap.size + 1 + 1, 4, none⟩ = some (.int .u64 0) := (h4.kept hg7).box.cell 4); (have m5 : w7.cell? ⟨w.heap.size + 1 + 1, 5, none⟩ = some (.int .u64 0) := (h4.kept hg7).box.cell 5); (have m6 : w7.cell? ⟨w.heap.size + 1 + 1, 6, none⟩ = some (.slice none 0 0) := (h4.kept hg7).box.cell 6); (have m7 : w7.cell? ⟨w.heap.size + 1 + 1, 7, none⟩ = some (.bool false) := (h4.kept hg7).box.cell 7); (have m8 : w7.cell? ⟨w.heap.size + 1 + 1, 8, none⟩ = some (.bool false) := (h4.kept hg7).box.cell 8); (have m9 : w7.cell? ⟨w.heap.size + 1 + 1, 9, none⟩ = some (.slice none 0 0) := (h4.kept hg7).box.cell 9); (have m10 : w7.cell? ⟨w.heap.size + 1 + 1, 10, none⟩ = some (.string ⟨#[]⟩) := (h4.kept hg7).box.cell 10); (have r0 : w7.cell? ⟨w.heap.size + 1, 0, none⟩ = some (.int .i64 0) := (hrB4.kept hg7 (by simp)).cell 0); (have r1 : w7.cell? ⟨w.heap.size + 1, 1, none⟩ = some (.slice none 0 0) := (hrB4.kept hg7 (by simp)).cell 1); (have r2 : w7.cell? ⟨w.heap.size + 1, 2, none⟩ = some (.int .u64 0) := (hrB4.kept hg7 (by simp)).cell 2); (have r3 : w7.cell? ⟨w.heap.size + 1, 3, none⟩ = some (.int .i64 0) := (hrB4.kept hg7 (by simp)).cell 3); (have r4 : w7.cell? ⟨w.heap.size + 1, 4, none⟩ = some (.int .u64 0) := (hrB4.kept hg7 (by simp)).cell 4); (have r5 : w7.cell? ⟨w.heap.size + 1, 5, none⟩ = some (.int .u64 0) := (hrB4.kept hg7 (by simp)).cell 5); (have r6 : w7.cell? ⟨w.heap.size + 1, 6, none⟩ = some (.slice none 0 0) := (hrB4.kept hg7 (by simp)).cell 6); (have r7 : w7.cell? ⟨w.heap.size + 1, 7, none⟩ = some (.bool false) := (hrB4.kept hg7 (by simp)).cell 7); (have r8 : w7.cell? ⟨w.heap.size + 1, 8, none⟩ = some (.bool false) := (hrB4.kept hg7 (by simp)).cell 8); (have r9 : w7.cell? ⟨w.heap.size + 1, 9, none⟩ = some (.slice none 0 0) := (hrB4.kept hg7 (by simp)).cell 9); (have r10 : w7.cell? ⟨w.heap.size + 1, 10, none⟩ = some (.string ⟨#[]⟩) := (hrB4.kept hg7 (by simp)).cell 10); (have z0 := (hrB4.kept hg7 (by simp)).fz 0); (have z1 := (hrB4.kept hg7 (by simp)).fz 1); (have z2 := (hrB4.kept hg7 (by simp)).fz 2); (have z3 := (hrB4.kept hg7 (by simp)).fz 3); (have z4 := (hrB4.kept hg7 (by simp)).fz 4); (have z5 := (hrB4.kept hg7 (by simp)).fz 5); (have z6 := (hrB4.kept hg7 (by simp)).fz 6); (have z7 := (hrB4.kept hg7 (by simp)).fz 7); (have z8 := (hrB4.kept hg7 (by simp)).fz 8); (have z9 := (hrB4.kept hg7 (by simp)).fz 9); (have z10 := (hrB4.kept hg7 (by simp)).fz 10)))
      obtain ⟨hbx, hgx⟩ := box11 (v0 := .int .i64 rv0) (v1 := .slice none 0 0) (v2 := .int .u64 0) (v3 := .int .i64 0) (v4 := .int .u64 0) (v5 := .int .u64 0) (v6 := .slice none 0 0) (v7 := .bool false) (v8 := .bool false) (v9 := .slice none 0 0) (v10 := .string ⟨#[]⟩) (hrB4.kept hg7 (by simp))
      refine ⟨rfl, _, load31 hbx _ rfl, .inl ⟨cmd0 rv0 false, .slice none 0 0, .slice none 0 0, HR.out, rfl, World.ownsRow_nil _ _ _ _, World.ownsRow_nil _ _ _ _⟩, gb_mine (gb_trans hgw4 hg7) hgx (by omega)⟩
set_option maxRecDepth 100000 in
set_option maxHeartbeats 4000000 in
theorem read_0t {w : World} (rv0 : Int) (rw0 rm0 : Bs) (re0 rq0 : Bool) (hR : Rok ⟨rv0, rw0, rm0, re0, rq0⟩) (hq : rq0 = true) (a : Option Addr) (cp : Nat) (hE : Er w) :
    Calls Tryz.prog 103 #[rv ⟨rv0, rw0, rm0, re0, rq0⟩, .slice a 0 cp] w fun e w' => RdP ⟨rv0, rw0, rm0, re0, rq0⟩ [] w e w' := by
  subst hq
  have hrd : readS ⟨rv0, rw0, rm0, re0, true⟩ [] = rdV ⟨rv0, rw0, rm0, re0, true⟩ false [] := by
    have : qt ⟨rv0, rw0, rm0, re0, true⟩ [] = false := by simp [qt]
    simp [readS, rdV, this]
  obtain ⟨hM3, hr3, hrB, hgw3⟩ := rd0 w rv0 rw0 rm0 re0 true false
  have d0 : decide ((rw0.length : Int) ≤ -1) = false := decide_eq_false (by omega)
  have hRok := hR.le
  have hT : ∀ W, Calls Tryz.prog 143 #[rv ⟨rv0, rw0, rm0, re0, true⟩, .int .i64 0] W fun e w' => e = .returned (.bool (takes ⟨rv0, rw0, rm0, re0, true⟩ 0)) ∧ W.grownBy w' none := fun W => takes_31 ⟨rv0, rw0, rm0, re0, true⟩ 0 (by omega) hRok.1 hRok.2 W
  obtain ⟨tk, htk⟩ : ∃ tk, takes ⟨rv0, rw0, rm0, re0, true⟩ 0 = tk := ⟨_, rfl⟩
  simp only [htk] at hT
  cases tk with
  | false =>
    have HR : Hid (readS ⟨rv0, rw0, rm0, re0, true⟩ [] = .inr badLine) := by
      show _ = _
      rw [hrd]; simp [rdV, htk]
    clear hrd htk hrB hM3 hr3
    go_enter Tryz.func103, Tryz.ntmps103
    go_wp2_with (first | (go_at_call 143; with_reducible refine (hT _).mono ?_; rintro e w4 ⟨rfl, hg4⟩) | (go_at_call 141; with_reducible refine (giveUp_27 _ _).mono ?_; rintro e w5 ⟨rfl, rfl⟩))
    exact ⟨rfl, .inr ⟨_, HR.out, rfl⟩, gb_trans hgw3 hg4⟩
  | true =>
    have HR : Hid (readS ⟨rv0, rw0, rm0, re0, true⟩ [] = .inl (cmd0 rv0 false)) := by
      show _ = _
      rw [hrd]; simp only [rdV, List.length_nil, htk, if_true]; rfl
    clear hrd
    have h34 := fun W => flags_nil rv0 none 0 W
    go_enter Tryz.func103, Tryz.ntmps103
    go_wp2_with (first | (go_at_call 143; with_reducible refine (hT _).mono ?_; rintro e w4 ⟨rfl, hg4⟩; (have h4 := hM3.kept hg4); (have hr4 := hr3.kept hg4 (by simp)); (have hrB4 := hrB.kept hg4 (by simp)); (have hgw4 := gb_trans hgw3 hg4); clear hM3 hr3 hg4 hgw3 hrB hT))
    go_loopw [44] (fun x wr => x = .int .i64 0 ∧ wr = w4) (fun _ _ => 0)
    case atStart => exact ⟨rfl, rfl⟩
    case round =>
      obtain ⟨rfl, rfl⟩ := hrel
      have y0 : wr.cell? ⟨w.heap.size, 0, none⟩ = some (.int .i64 rv0) := hr4.cell 0
      have y9 : wr.cell? ⟨w.heap.size + 1 + 1, 9, none⟩ = some (.slice none 0 0) := h4.box.cell 9
      go_wp2_with (go_at_call 37; go_must ((with_reducible refine (h34 _).mono ?_); rintro e w7 ⟨rfl, hg7⟩; (have m0 : w7.cell? ⟨w.heap.size + 1 + 1, 0, none⟩ = some (.int .i64 rv0) := (h4.kept hg7).box.cell 0); (have m1 : w7.cell? ⟨w.heap.size + 1 + 1, 1, none⟩ = some (.slice none 0 0) := (h4.kept hg7).box.cell 1); (have m2 : w7.cell? ⟨w.heap.size + 1 + 1, 2, none⟩ = some (.int .u64 0) := (h4.kept hg7).box.cell 2); (have m3 : w7.cell? ⟨w.heap.size + 1 + 1, 3, none⟩ = some (.int .i64 0) := (h4.kept hg7).box.cell 3); (have m4 : w7.cell? ⟨w.heap.size + 1 + 1, 4, none⟩ = some (.int .u64 0) := (h4.kept hg7).box.cell 4); (have m5 : w7.cell? ⟨w.heap.size + 1 + 1, 5, none⟩ = some (.int .u64 0) := (h4.kept hg7).box.cell 5); (have m6 : w7.cell? ⟨w.heap.size + 1 + 1, 6, none⟩ = some (.slice none 0 0) := (h4.kept hg7).box.cell 6); (have m7 : w7.cell? ⟨w.heap.size + 1 + 1, 7, none⟩ = some (.bool false) := (h4.kept hg7).box.cell 7); (have m8 : w7.cell? ⟨w.heap.size + 1 + 1, 8, none⟩ = some (.bool false) := (h4.kept hg7).box.cell 8); (have m9 : w7.cell? ⟨w.heap.size + 1 + 1, 9, none⟩ = some (.slice none 0 0) := (h4.kept hg7).box.cell 9); (have m10 : w7.cell? ⟨w.heap.size + 1 + 1, 10, none⟩ = some (.string ⟨#[]⟩) := (h4.kept hg7).box.cell 10); (have r0 : w7.cell? ⟨w.heap.size + 1, 0, none⟩ = some (.int .i64 0) := (hrB4.kept hg7 (by simp)).cell 0); (have r1 : w7.cell? ⟨w.heap.size + 1, 1, none⟩ = some (.slice none 0 0) := (hrB4.kept hg7 (by simp)).cell 1); (have r2 : w7.cell? ⟨w.heap.size + 1, 2, none⟩ = some (.int .u64 0) := (hrB4.kept hg7 (by simp)).cell 2); (have r3 : w7.cell? ⟨w.heap.size + 1, 3, none⟩ = some (.int .i64 0) := (hrB4.kept hg7 (by simp)).cell 3); (have r4 : w7.cell? ⟨w.heap.size + 1, 4, none⟩ = some (.int .u64 0) := (hrB4.kept hg7 (by simp)).cell 4); (have r5 : w7.cell? ⟨w.heap.size + 1, 5, none⟩ = some (.int .u64 0) := (hrB4.kept hg7 (by simp)).cell 5); (have r6 : w7.cell? ⟨w.heap.size + 1, 6, none⟩ = some (.slice none 0 0) := (hrB4.kept hg7 (by simp)).cell 6); (have r7 : w7.cell? ⟨w.heap.size + 1, 7, none⟩ = some (.bool false) := (hrB4.kept hg7 (by simp)).cell 7); (have r8 : w7.cell? ⟨w.heap.size + 1, 8, none⟩ = some (.bool false) := (hrB4.kept hg7 (by simp)).cell 8); (have r9 : w7.cell? ⟨w.heap.size + 1, 9, none⟩ = some (.slice none 0 0) := (hrB4.kept hg7 (by simp)).cell 9); (have r10 : w7.cell? ⟨w.heap.size + 1, 10, none⟩ = some (.string ⟨#[]⟩) := (hrB4.kept hg7 (by simp)).cell 10); (have z0 := (hrB4.kept hg7 (by simp)).fz 0); (have z1 := (hrB4.kept hg7 (by simp)).fz 1); (have z2 := (hrB4.kept hg7 (by simp)).fz 2); (have z3 := (hrB4.kept hg7 (by simp)).fz 3); (have z4 := (hrB4.kept hg7 (by simp)).fz 4); (have z5 := (hrB4.kept hg7 (by simp)).fz 5); (have z6 := (hrB4.kept hg7 (by simp)).fz 6); (have z7 := (hrB4.kept hg7 (by simp)).fz 7); (have z8 := (hrB4.kept hg7 (by simp)).fz 8); (have z9 := (hrB4.kept hg7 (by simp)).fz 9); (have z10 := (hrB4.kept hg7 (by simp)).fz 10)))
      obtain ⟨hbx, hgx⟩ := box11 (v0 := .int .i64 rv0) (v1 := .slice none 0 0) (v2 := .int .u64 0) (v3 := .int .i64 0) (v4 := .int .u64 0) (v5 := .int .u64 0) (v6 := .slice none 0 0) (v7 := .bool false) (v8 := .bool false) (v9 := .slice none 0 0) (v10 := .string ⟨#[]⟩) (hrB4.kept hg7 (by simp))
      refine ⟨rfl, _, load31 hbx _ rfl, .inl ⟨cmd0 rv0 false, .slice none 0 0, .slice none 0 0, HR.out, rfl, World.ownsRow_nil _ _ _ _, World.ownsRow_nil _ _ _ _⟩, gb_mine (gb_trans hgw4 hg7) hgx (by omega)⟩

/-- Read. -/
theorem read_18 {w : World} (r : Rw) (hR : Rok r) (v : Value) (ws : List Bs) (hws : ∀ x ∈ ws, x ≠ [] ∧ x.length ≤ 1099511627776) (hn : ws.length ≤ 1000000000) (hW : Ws w v ws) (hE : Er w) :
    Calls Tryz.prog 103 #[rv r, v] w fun e w' => RdP r ws w e w' := by
  obtain ⟨rv0, rw0, rm0, re0, rq0⟩ := r
  rcases hW with ⟨rfl, a, c, rfl⟩ | ⟨g, o, c, rfl, h1, h2, h3⟩
  · cases rq0 with
    | false => exact read_0f rv0 rw0 rm0 re0 false hR rfl a c hE
    | true => exact read_0t rv0 rw0 rm0 re0 true hR rfl a c hE
  cases rq0 with
  | false => exact read_1 rv0 rw0 rm0 re0 false hR ws hws ws.length rfl hn g o c h2 h1 h3 hE rfl
  | true =>
    rcases Nat.eq_zero_or_pos ws.length with h0 | h0
    · have h4 := List.length_eq_zero_iff.1 h0
      subst h4
      exact read_0t rv0 rw0 rm0 re0 true hR rfl _ c hE
    · obtain ⟨l, hl⟩ : ∃ l, ws.length = l + 1 := ⟨ws.length - 1, by omega⟩
      rcases Nat.lt_or_ge l rw0.length with h5 | h5
      · exact read_2 rv0 rw0 rm0 re0 true hR ws hws ws.length rfl hn g o c h2 h1 h3 hE rfl l hl h5
      · by_cases h6 : ws.getLast? = some noreply
        · rw [hl]
          exact read_4 rv0 rw0 rm0 re0 true hR ws hws l hl (by omega) g o c h2 (by omega) h3 hE rfl h5 h6
        · exact read_3 rv0 rw0 rm0 re0 true hR ws hws ws.length rfl hn g o c h2 h1 h3 hE rfl l hl h5 h6

theorem idx_of (s : Bs) (c : UInt8) : Lib.indexByte s c = match s.idxOf? c with | some i => (i : Int) | none => -1 := by
  induction s with
  | nil => rfl
  | cons b l ih =>
    simp only [Lib.indexByte, List.idxOf?_cons]
    by_cases hb : b = c
    · subst hb; simp
    · simp only [beq_iff_eq, hb, if_false, ih]
      cases l.idxOf? c with
      | none => simp
      | some i => simp
set_option maxRecDepth 100000 in
set_option maxHeartbeats 4000000 in
theorem pass_17 {w : World} (r : Rw) (hR : Rok r) (v : Value) (ws : List Bs) (hws : ∀ x ∈ ws, x ≠ [] ∧ x.length ≤ 1099511627776) (hn : ws.length ≤ 1000000000) (hW : Ws w v ws) (hE : Er w) :
    Calls Tryz.prog 102 #[rv r, v] w fun e w' => e = .returned (.int .i64 (passS r ws)) ∧ w.grownBy w' none := by
  have hgA : w.grownBy (w.alloc (.cells #[.int .i64 r.verb, sv r.wants, sv r.may, .bool r.endless, .bool r.quiet] 148)) none := gb_alloc (gb_refl _ _) _
  have hEA := hE.kept hgA
  obtain ⟨nv, hnv⟩ : ∃ nv, ws.length = nv := ⟨_, rfl⟩
  have hsh : ∃ a c, v = .slice a nv c := by
    rcases hW with ⟨rfl, a, c, rfl⟩ | ⟨g, o, c, rfl, _⟩
    · subst hnv; exact ⟨a, c, rfl⟩
    · subst hnv; exact ⟨_, c, rfl⟩
  obtain ⟨a, c, rfl⟩ := hsh
  cases hi : r.wants.idxOf? 78 with
  | none =>
    have hc : ∀ W, Calls Tryz.prog 130 #[sv r.wants, .int .u8 78] W fun e w' => e = .returned (.int .i64 (-1)) ∧ w' = W := fun W => by
      have := indexB_29 ⟨r.wants.toArray⟩ 78 W
      rw [show Lib.indexByte (ByteArray.mk r.wants.toArray).data.toList (78 : Int).toNat.toUInt8 = -1 from by show Lib.indexByte r.wants 78 = -1; rw [idx_of, hi]] at this
      exact this
    have hp : passS r ws = -1 := by simp [passS, hi]
    rw [hp]
    clear hW hi
    go_enter Tryz.func102, Tryz.ntmps102
    go_wp2_with (go_at_call 130; with_reducible refine (hc _).mono ?_; rintro e w' ⟨rfl, rfl⟩)
    go_ret
    exact ⟨rfl, hgA⟩
  | some i =>
    have hc : ∀ W, Calls Tryz.prog 130 #[sv r.wants, .int .u8 78] W fun e w' => e = .returned (.int .i64 i) ∧ w' = W := fun W => by
      have := indexB_29 ⟨r.wants.toArray⟩ 78 W
      rw [show Lib.indexByte (ByteArray.mk r.wants.toArray).data.toList (78 : Int).toNat.toUInt8 = (i : Int) from by show Lib.indexByte r.wants 78 = (i : Int); rw [idx_of, hi]] at this
      exact this
    have hi0 : decide ((i : Int) < 0) = false := decide_eq_false (by omega)
    rcases Nat.lt_or_ge i nv with hlt | hge
    · obtain ⟨x, hx⟩ : ∃ x, ws[i]? = some x := ⟨_, List.getElem?_eq_getElem (by omega)⟩
      have hd : decide ((nv : Int) ≤ (i : Int)) = false := decide_eq_false (by omega)
      have hd2 : ((i : Int) < (nv : Int)) := by omega
      obtain ⟨hx0, hxl⟩ := hws x (List.mem_of_getElem? hx)
      have hcl : ∃ g o, a = some ⟨g, o, none⟩ ∧ w.cell? ⟨g, o + i, none⟩ = some (sv x) := by
        rcases hW with ⟨rfl, _⟩ | ⟨g, o, c', h1, _, _, h3⟩
        · simp at hx
        · injection h1 with h1 _ _
          exact ⟨g, o, h1, h3 i x hx⟩
      obtain ⟨g, o, rfl, hcx⟩ := hcl
      have hcA := gb_cellN hgA hcx
      have h30 := fun W (hW : Er W) => number_30 x hxl 2147483647 2147483647 rfl (by omega) W hW
      cases hnb : nb 2147483647 x with
      | none =>
        have hp : passS r ws = -1 := by simp [passS, hi, hx, hnb]
        simp only [hnb] at h30
        rw [hp]
        clear hW hi hx hnb hws hp
        go_enter Tryz.func102, Tryz.ntmps102
        go_wp2_with (first | (go_at_call 130; with_reducible refine (hc _).mono ?_; rintro e w' ⟨rfl, rfl⟩) | (go_at_call 133; with_reducible refine (h30 _ hEA).mono ?_; rintro e w' ⟨rfl, hg⟩))
        go_ret
        exact ⟨rfl, gb_trans hgA hg⟩
      | some m =>
        have hm : m ≤ 2147483647 := by
          unfold nb at hnb
          split at hnb
          · split at hnb
            · injection hnb with hnb; omega
            · cases hnb
          · cases hnb
        have hp : passS r ws = (m : Int) := by simp [passS, hi, hx, hnb]
        simp only [hnb] at h30
        rw [hp]
        clear hp
        clear hW hi hx hnb hws
        go_enter Tryz.func102, Tryz.ntmps102
        go_wp2_with (first | (go_at_call 130; with_reducible refine (hc _).mono ?_; rintro e w' ⟨rfl, rfl⟩) | (go_at_call 133; with_reducible refine (h30 _ hEA).mono ?_; rintro e w' ⟨rfl, hg⟩))
        go_ret
        exact ⟨rfl, gb_trans hgA hg⟩
    · have hp : passS r ws = -1 := by
        have : ws[i]? = none := List.getElem?_eq_none (by omega)
        simp [passS, hi, this]
      have hd : decide ((nv : Int) ≤ (i : Int)) = true := decide_eq_true (by omega)
      rw [hp]
      clear hW hi
      go_enter Tryz.func102, Tryz.ntmps102
      go_wp2_with (go_at_call 130; with_reducible refine (hc _).mono ?_; rintro e w' ⟨rfl, rfl⟩)
      go_ret
      exact ⟨rfl, hgA⟩
end Go.Proofs.YtobegepebochkaaGreatDoor
/-
  A range over a function that turns its own memory.
-/
namespace Go.Proofs.YtobegepebochkaaGreatDoor
open Go.RowKit Go.Shelf
set_option linter.unusedVariables false
set_option linter.unusedSimpArgs false

section
variable {F : Fence} {n : Nat} {P : Program}
/-- A range over a function that turns memory of its own between two rounds (X), with a body that always goes on. -/
theorem range_turns {α : Type} {g : Operand} {ps : Array Tmp} {assign body : Code} {Q : Exit → Act → World → Prop} {a : Act} {w : World}
    (hro : F.round = none) (h1 : 1 ≤ n) {gf : Nat} {lb : Array Value} (hg : a.eval g = .func (.func gf) #[] lb) (hFg : F.fn gf) (eg : ∀ args w, (callFunc gf args).run P w = .ok (.enter gf args) w)
    (encs : α → Array Value) (hps : ∀ x, (encs x).size = ps.size) (X Kp : World → World → Prop) (I : List α → World → Prop) (S : List α → Prop) (N : Nat) (a₁ : α → Act)
    (hIX : ∀ pre W W', I pre W → X W W' → I pre W') (hX : ∀ W W', X W W' → KeepsFrom w.heap.size W W')
    (hIp : ∀ pre W l o o', I pre W → w.heap.size ≤ l → W.heap[l]? = some o → o.isCells = false → I pre (W.putObj l o'))
    (hKt : ∀ {A B C : World}, Kp A B → Kp B C → Kp A C) (hKb : ∀ (W : World) (l : Nat) (o o' : Obj), w.heap.size ≤ l → W.heap[l]? = some o → o.isCells = false → Kp W (W.putObj l o'))
    (hI0 : ∀ o, I [] ((w.alloc (.deferred (some []))).alloc o))
    (hit : ∀ (l : Nat) (o : Obj) (J : List α → World → Prop), (∀ pre W W', J pre W → X W W' → J pre W') →
      (∀ pre x W1, J pre W1 → pre.length < N → YieldAt F (n - 1 - 1) P l (encs x) W1 fun e W' => e = .returned (.bool true) ∧ J (pre ++ [x]) W' ∧ Kp W1 W') → J [] ((w.alloc (.deferred (some []))).alloc o) →
      CallsIn F (n - 1) P gf (#[.func (.yield l) #[] #[]] ++ lb) ((w.alloc (.deferred (some []))).alloc o) fun e W' => (∃ v, e = .returned v) ∧ ∃ xs, S xs ∧ J xs W')
    (hassign : ∀ (l : Nat) (x : α) (W : World) (K : Act → World → Prop), K (a₁ x) W →
      assign.wpIn (F.inRound l) (n - 1 - 1) P (Exit.then K (fun _ _ _ => False)) { tmps := (ps.zip (encs x)).foldl (fun t (p, v) => t.setIfInBounds p v) a.tmps, defers := [] } W)
    (hbody : ∀ (l : Nat) (pre : List α) (x : α) (W : World), I pre W → pre.length < N → body.wpIn (F.inRound l) (n - 1 - 1) P (fun e _ W' => e = .normal ∧ KeepsFrom w.heap.size W W' ∧ Kp W W' ∧ I (pre ++ [x]) W') (a₁ x) W)
    (hdone : ∀ (D : Nat) (xs : List α) (W : World), w.heap.size ≤ D → S xs → I xs W → W.heap[D]? = some (.deferred (some [])) → Q .normal { a with defers := { target := .collected D, args := #[] } :: a.defers } W) :
    (Code.rangeFunc g ps assign body).wpIn F n P Q a w := by
  refine wpIn_rangeFunc fun fn hfn => ?_
  rw [hro]
  have hen := run_enterLoop_outer (P := P) (w := w) fn a.tmps ps assign body
  obtain ⟨rd, hrd⟩ : ∃ rd : Loop, rd = { state := .ready, pending := none, fn, tmps := a.tmps, params := ps, assign, body, defers := w.heap.size } := ⟨_, rfl⟩
  rw [← hrd] at hen
  refine ⟨_, _, _, { target := .fn (.func gf) lb, args := #[.func (.yield (w.heap.size + 1)) #[] #[]] }, (w.alloc (.deferred (some []))).alloc (.loop rd), gf, #[.func (.yield (w.heap.size + 1)) #[] #[]] ++ lb, (w.alloc (.deferred (some []))).alloc (.loop rd), hen, ?_, ?_, ?_, fun _ => h1, ?_⟩
  · simp only [resolve, hg]; simp [go_sem]
  · intro f' hf'; simp [Target.leads] at hf'; subst hf'; exact hFg
  · simp [invoke, go_sem, eg]
  have hL : ((w.alloc (.deferred (some []))).alloc (.loop rd)).heap[w.heap.size + 1]? = some (.loop rd) := by
    have := World.alloc_heap_new (w.alloc (.deferred (some []))) (.loop rd); rwa [World.size_alloc] at this
  have hD : ((w.alloc (.deferred (some []))).alloc (.loop rd)).heap[w.heap.size]? = some (.deferred (some [])) := (Below.heap_alloc _ _ _ (by simp)).trans (World.alloc_heap_new w _)
  refine (hit (w.heap.size + 1) (.loop rd) (fun pre W => I pre W ∧ W.heap[w.heap.size + 1]? = some (.loop rd) ∧ W.heap[w.heap.size]? = some (.deferred (some []))) ?_ ?_ ⟨hI0 _, hL, hD⟩).mono ?_
  · rintro pre W W' ⟨a1, a2, a3⟩ hx
    exact ⟨hIX _ _ _ a1 hx, (hX _ _ hx).same _ _ (by omega) a2 rfl, (hX _ _ hx).same _ _ (Nat.le_refl _) a3 rfl⟩
  · rintro pre x W ⟨a1, a2, a3⟩ hlN
    have hy := run_yield (P := P) (args := encs x) a2 (by rw [hrd]; exact hps x)
    have hb := run_beginRound (P := P) a2 (by rw [hrd])
    have hlt : w.heap.size + 1 < W.heap.size := (Array.getElem?_eq_some_iff.1 a2).1
    have ef : rd.fn = fn := by rw [hrd]
    have et : rd.tmps = a.tmps := by rw [hrd]
    have ep : rd.params = ps := by rw [hrd]
    have ea : rd.assign = assign := by rw [hrd]
    have eb : rd.body = body := by rw [hrd]
    have es : rd.state = .ready := by rw [hrd]
    have eq : rd.pending = none := by rw [hrd]
    rw [ef, et, ep, ea, eb] at hy
    refine ⟨fn, _, assign, body, hy, roundIn_of_wpIn hfn (hassign _ x W _ ⟨_, hb, ?_⟩)⟩
    obtain ⟨W2, hW2⟩ : ∃ W2, W.putObj (w.heap.size + 1) (.loop { rd with state := .busy }) = W2 := ⟨_, rfl⟩
    have b2 : W2.heap[w.heap.size + 1]? = some (.loop { rd with state := .busy }) := by rw [← hW2]; exact World.putObj_heap_same hlt
    have b3 : W2.heap[w.heap.size]? = some (.deferred (some [])) := by rw [← hW2]; exact (World.putObj_heap_other (by omega)).trans a3
    have b1 : I pre W2 := by rw [← hW2]; exact hIp _ _ _ _ _ a1 (by omega) a2 rfl
    have bk : Kp W W2 := by rw [← hW2]; exact hKb _ _ _ _ (by omega) a2 rfl
    rw [hW2]
    refine wpIn_mono (hbody _ pre x W2 b1 hlN) ?_
    rintro e a3' W3 ⟨rfl, hk3, hkp3, hi3⟩
    have c2 := hk3.same _ _ (by omega) b2 rfl
    have c3 := hk3.same _ _ (Nat.le_refl _) b3 rfl
    have he := run_endRound (P := P) none c2
    refine ⟨_, _, he, rfl, ⟨hIp _ _ _ _ _ hi3 (by omega) c2 rfl, ?_, (World.putObj_heap_other (by omega)).trans c3⟩, hKt (hKt bk hkp3) (hKb _ _ _ _ (by omega) c2 rfl)⟩
    rw [World.putObj_heap_same (Array.getElem?_eq_some_iff.1 c2).1]
    simp only [Option.isNone_none, if_true]
    congr 2
    cases rd
    simp_all
  · rintro e W2 ⟨⟨v, rfl⟩, xs, hS, a1, a2, a3⟩
    have he := run_endLoop (P := P) a2 (by rw [hrd]; simp)
    have eq : rd.pending = none := by rw [hrd]
    rw [eq] at he
    exact ⟨none, _, he, hdone _ xs _ (Nat.le_refl _) hS (hIp _ _ _ _ _ a1 (by omega) a2 rfl) ((World.putObj_heap_other (by omega)).trans a3)⟩
end
end Go.Proofs.YtobegepebochkaaGreatDoor
/-
  Cutting a line into words.
-/
namespace Go.Proofs.YtobegepebochkaaGreatDoor
open Go.RowKit Go.Shelf
set_option linter.unusedVariables false
set_option linter.unusedSimpArgs false

attribute [local go_sem] Oper.semAt_some
/-- A line's parts: what blanks part, empty ones too. -/
def prt : Bs → Bs → List Bs
  | cur, [] => [cur]
  | cur, b :: t => if b = 32 then cur :: prt [] t else prt (cur ++ [b]) t
theorem spl_prt : ∀ (l cur : Bs), spl cur l = (prt cur l).filter (fun x => decide (x ≠ []))
  | [], cur => by
    simp only [spl, prt]
    by_cases h : cur = []
    · simp [h]
    · simp [h]
  | b :: t, cur => by
    simp only [spl, prt]
    by_cases hb : b = 32
    · simp only [hb, if_true]
      by_cases h : cur = []
      · simp [h, spl_prt t]
      · simp [h, spl_prt t]
    · simp only [hb, if_false]; exact spl_prt t _
theorem prt_none : ∀ (l cur : Bs), Lib.indexByte l 32 = -1 → prt cur l = [cur ++ l]
  | [], cur, _ => by simp [prt]
  | b :: t, cur, h => by
    simp only [Lib.indexByte] at h
    by_cases hb : b = 32
    · simp [hb] at h
    · have h2 := Lib.indexByte_ge t 32
      simp only [beq_iff_eq, hb, if_false] at h
      split at h
      · rename_i h3
        simp only [prt, hb, if_false]
        rw [prt_none t _ h3]; simp
      · rename_i h3; omega
theorem prt_some : ∀ (l cur : Bs) (i : Nat), Lib.indexByte l 32 = (i : Int) → i < l.length ∧ prt cur l = (cur ++ l.take i) :: prt [] (l.drop (i + 1))
  | [], cur, i, h => by simp [Lib.indexByte] at h
  | b :: t, cur, i, h => by
    simp only [Lib.indexByte] at h
    by_cases hb : b = 32
    · simp [hb] at h
      subst hb
      have : i = 0 := by omega
      subst this
      simp [prt]
    · have h2 := Lib.indexByte_ge t 32
      simp only [beq_iff_eq, hb, if_false] at h
      split at h
      · omega
      · rename_i h3
        obtain ⟨j, hj⟩ : ∃ j : Nat, Lib.indexByte t 32 = (j : Int) := ⟨(Lib.indexByte t 32).toNat, by omega⟩
        obtain ⟨h4, h5⟩ := prt_some t (cur ++ [b]) j hj
        have : i = j + 1 := by omega
        subst this
        simp only [prt, hb, if_false]
        exact ⟨by simp; omega, by rw [h5]; simp⟩
theorem ext_take (l : Bs) (i : Nat) : (ByteArray.mk l.toArray).extract 0 i = ⟨(l.take i).toArray⟩ := by
  apply ByteArray.ext
  simp [ByteArray.data_extract]
theorem ext_drop (l : Bs) (i : Nat) : (ByteArray.mk l.toArray).extract i l.length = ⟨(l.drop i).toArray⟩ := by
  apply ByteArray.ext
  simp only [ByteArray.data_extract, List.extract_toArray, List.extract_eq_take_drop]
  rw [List.take_of_length_le (by simp)]
set_option maxRecDepth 100000 in
set_option maxHeartbeats 4000000 in
theorem index_83 (l : Bs) (w : World) :
    Calls Tryz.prog 200 #[sv l, .string ⟨#[32]⟩] w fun e w' => e = .returned (.int .i64 (Lib.indexByte l 32)) ∧ w' = w := by
  have h41 := fun W => indexB_41 ⟨l.toArray⟩ 32 W
  go_enter Tryz.func200, Tryz.ntmps200
  go_wp2_with (go_at_call 154; refine (h41 _).mono ?_; rintro e w' ⟨rfl, rfl⟩)
  · rename_i h
    have e : l = [32] := (beq_iff_eq.1 h).symm
    subst e
    go_ret
    exact ⟨rfl, rfl⟩
  · go_ret
    exact ⟨rfl, rfl⟩
set_option maxRecDepth 100000 in
set_option maxHeartbeats 4000000 in
theorem index_69 (l : Bs) (w : World) :
    Calls Tryz.prog 191 #[sv l, .string ⟨#[32]⟩] w fun e w' => e = .returned (.int .i64 (Lib.indexByte l 32)) ∧ w' = w := by
  go_enter Tryz.func191, Tryz.ntmps191
  go_wp2_with (go_at_call 200; with_reducible refine (index_83 _ _).mono ?_; rintro e w' ⟨rfl, rfl⟩)
  go_ret
  exact ⟨rfl, rfl⟩
set_option maxRecDepth 100000 in
set_option maxHeartbeats 4000000 in
theorem split_40 (l : Bs) (w : World) :
    Calls Tryz.prog 159 #[sv l, .string ⟨#[32]⟩] w fun e w' => e = .returned (.func (.func 189) #[] #[.pointer (some ⟨w.heap.size + 1, 0, none⟩), .pointer (some ⟨w.heap.size, 0, none⟩), .pointer (some ⟨w.heap.size + 1 + 1, 0, none⟩)]) ∧ w' = ((w.alloc (.cells #[sv l] 9)).alloc (.cells #[.string ⟨#[32]⟩] 9)).alloc (.cells #[.int .i64 0] 3) := by
  have hmf : ∀ (fn : Fn) (first cap : Array Value) (w : World), (Instr.makeFunc fn first cap).run Tryz.prog w = .ok (.func fn first cap) w := fun _ _ _ _ => rfl
  go_enter Tryz.func159, Tryz.ntmps159
  go_wp2
  go_ret
  exact ⟨rfl, rfl⟩
/-- How long the text in a box is. -/
def slen (w : World) (b : Nat) : Nat := match w.cell? ⟨b, 0, none⟩ with | some (.string s) => s.size | _ => 0
/-- What the iterator turns between two rounds. -/
def Xt (sb : Nat) (W W' : World) : Prop := W' = W ∨ ∃ v, W' = W.setCell ⟨sb, 0, none⟩ v
/-- Its three boxes stay. -/
def Kx (sb pb vb : Nat) (W W' : World) : Prop := ∀ k, k = sb ∨ k = pb ∨ k = vb → W'.heap[k]? = W.heap[k]?
theorem Kx.trans {sb pb vb : Nat} {A B C : World} (h : Kx sb pb vb A B) (k : Kx sb pb vb B C) : Kx sb pb vb A C := fun i hi => (k i hi).trans (h i hi)
theorem Kx.box {sb pb vb : Nat} {A B : World} (h : Kx sb pb vb A B) {t b : Nat} {vs : Array Value} (hb : Box A t b vs) (hk : b = sb ∨ b = pb ∨ b = vb) : Box B t b vs := (h b hk).trans hb
set_option maxRecDepth 100000 in
set_option maxHeartbeats 4000000 in
theorem split_in (n N : Nat) (hn : 1 ≤ n) (l sb pb vb : Nat) (l0 : Bs) (hN : (prt [] l0).length ≤ N) (hl0 : l0.length ≤ 1099511627776) (hsp : sb ≠ pb) (hsv : sb ≠ vb) (J : List Bs → World → Prop) (hJX : ∀ pre W W', J pre W → Xt sb W W' → J pre W')
    (hY : ∀ pre x W1, J pre W1 → pre.length < N → YieldAt Fence.wide (n - 1) Tryz.prog l #[sv x] W1 fun e W' => e = .returned (.bool true) ∧ J (pre ++ [x]) W' ∧ Kx sb pb vb W1 W')
    (W : World) (b1 : Box W 9 sb #[sv l0]) (b2 : Box W 9 pb #[.string ⟨#[32]⟩]) (b3 : Box W 3 vb #[.int .i64 0]) (h0 : J [] W) :
    CallsIn Fence.wide n Tryz.prog 189 #[.func (.yield l) #[] #[], .pointer (some ⟨pb, 0, none⟩), .pointer (some ⟨sb, 0, none⟩), .pointer (some ⟨vb, 0, none⟩)] W fun e W' => (∃ v, e = .returned v) ∧ ∃ xs, xs = prt [] l0 ∧ J xs W' := by
  refine callsIn_of_wp Tryz.func189 rfl trivial ?_ rfl
  simp only [Tryz.ntmps189, List.size_toArray, List.length_cons, List.length_nil, Nat.reduceAdd, Nat.reduceSub, Array.replicate_succ, Array.replicate_zero, List.push_toArray, List.append_toArray, List.nil_append, List.cons_append]
  have p2 := b2.cell 0
  rw [show (#[Value.string ⟨#[32]⟩] : Array Value)[0]? = some (.string ⟨#[32]⟩) from rfl] at p2
  gi_wp2
  gi_loopw [7] (fun _ wr => ∃ (r : Bs) (ys : List Bs), r.length ≤ 1099511627776 ∧ Box wr 9 sb #[sv r] ∧ Box wr 9 pb #[.string ⟨#[32]⟩] ∧ Box wr 3 vb #[.int .i64 0] ∧ ys ++ prt [] r = prt [] l0 ∧ J ys wr) (fun _ wr => slen wr sb)
  case atStart => exact ⟨l0, [], hl0, b1, b2, b3, rfl, h0⟩
  case round =>
    obtain ⟨r, ys, hr, d1, d2, d3, hE, hJ⟩ := hrel
    have q1 : wr.cell? ⟨sb, 0, none⟩ = some (sv r) := d1.cell 0
    have q2 : wr.cell? ⟨pb, 0, none⟩ = some (.string ⟨#[32]⟩) := d2.cell 0
    have q3 : wr.cell? ⟨vb, 0, none⟩ = some (.int .i64 0) := d3.cell 0
    have h69 := fun W => index_69 r W
    have hge := Lib.indexByte_ge r 32
    rcases (by omega : Lib.indexByte r 32 = -1 ∨ 0 ≤ Lib.indexByte r 32) with hi | hi
    · rw [hi] at h69
      have HE : Hid (ys ++ [r] = prt [] l0) := by
        show _ = _
        rw [← hE, prt_none r [] hi]; rfl
      obtain ⟨fn, tmps, assign, body, hy, hR⟩ := hY ys r wr hJ (by have h1 := congrArg List.length HE.out; simp at h1; omega)
      clear hE hi hge hY
      gi_wp2_with (refine ⟨trivial, ?_⟩; gi_at_call 191; refine (callsIn_wide.2 (h69 _)).mono ?_; rintro e w5 ⟨rfl, rfl⟩)
      refine hR.mono ?_
      rintro e W3 ⟨rfl, hJ3, hk3⟩
      gi_wp2
      go_end0
      exact ⟨⟨_, rfl⟩, _, HE.out, hJ3⟩
    · obtain ⟨i, hii⟩ : ∃ i : Nat, Lib.indexByte r 32 = (i : Int) := ⟨(Lib.indexByte r 32).toNat, by omega⟩
      rw [hii] at h69
      obtain ⟨hil, hpp⟩ := prt_some r [] i hii
      rw [List.nil_append] at hpp
      have HE : Hid ((ys ++ [r.take i]) ++ prt [] (r.drop (i + 1)) = prt [] l0) := by
        show _ = _
        rw [← hE, hpp]; simp
      obtain ⟨fn, tmps, assign, body, hy, hR⟩ := hY ys (r.take i) wr hJ (by have h1 := congrArg List.length HE.out; simp at h1; omega)
      have e1 := ext_take r i
      have e2 := ext_drop r (i + 1)
      have d0 : decide ((i : Int) < 0) = false := decide_eq_false (by omega)
      have g1 : ((i : Int) ≤ (r.length : Int)) := by omega
      have g2 : ((i : Int) + 1 ≤ (r.length : Int)) := by omega
      clear hE hi hge hY hpp hii
      gi_wp2_with (refine ⟨trivial, ?_⟩; gi_at_call 191; refine (callsIn_wide.2 (h69 _)).mono ?_; rintro e w5 ⟨rfl, rfl⟩)
      refine hR.mono ?_
      rintro e W3 ⟨rfl, hJ3, hk3⟩
      have f1 := hk3.box d1 (.inl rfl)
      have f2 := hk3.box d2 (.inr (.inl rfl))
      have f3 := hk3.box d3 (.inr (.inr rfl))
      have s1 : W3.cell? ⟨sb, 0, none⟩ = some (sv r) := f1.cell 0
      have s2 : W3.cell? ⟨pb, 0, none⟩ = some (.string ⟨#[32]⟩) := f2.cell 0
      have s3 := f1.fz 0
      clear hR hy
      gi_wp2
      go_roundw
      case rel =>
        refine ⟨r.drop (i + 1), _, by rw [List.length_drop]; omega, f1.set 0 _, ?_, ?_, HE.out, hJX _ _ _ hJ3 (.inr ⟨_, rfl⟩)⟩
        · exact f2.kept (gb_setCell (gb_refl W3 (some sb)) _) (fun e => hsp (by injection e with e; exact e.symm))
        · exact f3.kept (gb_setCell (gb_refl W3 (some sb)) _) (fun e => hsv (by injection e with e; exact e.symm))
      case measure =>
        have m1 : slen w5 sb = r.length := by simp only [slen, q1]; exact ba_size r
        have m2 : slen (W3.setCell ⟨sb, 0, none⟩ (.string ⟨(r.drop (i + 1)).toArray⟩)) sb = (r.drop (i + 1)).length := by
          have := (f1.set 0 (.string ⟨(r.drop (i + 1)).toArray⟩)).cell 0
          simp only [slen]
          rw [this]
          exact ba_size _
        rw [m1, m2, List.length_drop]
        omega
/-- The words of parts. -/
def neP (l : List Bs) : List Bs := l.filter (fun x => decide (x ≠ []))
theorem neP_app (a : List Bs) (x : Bs) : neP (a ++ [x]) = neP a ++ (if x = [] then [] else [x]) := by
  by_cases h : x = []
  · simp [neP, h]
  · simp [neP, h]
theorem neP_le (a : List Bs) : (neP a).length ≤ a.length := List.length_filter_le _ _
set_option maxRecDepth 100000 in
set_option maxHeartbeats 4000000 in
theorem cut_28 (l : Bs) (hl : l.length ≤ 1000000) (w : World) :
    Calls Tryz.prog 142 #[sv l] w fun e w' => ∃ v, e = .returned v ∧ w'.ownsRow w.heap.size 9 1 v (spl [] l).length ((spl [] l).map sv) ∧ w.grownBy w' none := by
  obtain ⟨i0, hi, hz0, hz1, hz2⟩ := info_parts Tryz.info9
  refine (callsIn_wide (n := 4)).1 ?_
  refine callsIn_of_wp_marks Tryz.func142 rfl trivial ?_ rfl
  simp only [Tryz.ntmps142, List.size_toArray, List.length_cons, List.length_nil, Nat.reduceAdd, Nat.reduceSub, Array.replicate_succ, Array.replicate_zero, List.push_toArray, List.append_toArray, List.nil_append, List.cons_append]
  gi_wp2_with (refine ⟨trivial, ?_⟩; gi_at_call 159; refine (callsIn_wide.2 (split_40 l _)).mono ?_; rintro e w5 ⟨rfl, rfl⟩)
  obtain ⟨W0, hW0⟩ : ∃ W0, (((w.alloc (.cells #[.slice none 0 0] 36)).alloc (.cells #[sv l] 9)).alloc (.cells #[.string ⟨#[32]⟩] 9)).alloc (.cells #[.int .i64 0] 3) = W0 := ⟨_, rfl⟩
  have hs0 : W0.heap.size = w.heap.size + 1 + 1 + 1 + 1 := by rw [← hW0]; simp
  have hg0 : w.grownBy W0 none := by rw [← hW0]; exact gb_alloc (gb_alloc (gb_alloc (gb_alloc (gb_refl w none) _) _) _) _
  have k0 : Boxed W0 w.heap.size 36 (.slice none 0 0) := by rw [← hW0]; exact (Box.new w 36 #[.slice none 0 0]).kept (gb_alloc (gb_alloc (gb_alloc (gb_refl _ none) _) _) _) (by simp)
  have k1 : Box W0 9 (w.heap.size + 1) #[sv l] := by
    have := Box.new (w.alloc (.cells #[.slice none 0 0] 36)) 9 #[sv l]
    simp only [World.size_alloc] at this
    rw [← hW0]; exact this.kept (gb_alloc (gb_alloc (gb_refl _ none) _) _) (by simp)
  have k2 : Box W0 9 (w.heap.size + 1 + 1) #[.string ⟨#[32]⟩] := by
    have := Box.new ((w.alloc (.cells #[.slice none 0 0] 36)).alloc (.cells #[sv l] 9)) 9 #[.string ⟨#[32]⟩]
    simp only [World.size_alloc] at this
    rw [← hW0]; exact this.kept (gb_alloc (gb_refl _ none) _) (by simp)
  have k3 : Box W0 3 (w.heap.size + 1 + 1 + 1) #[.int .i64 0] := by
    have := Box.new (((w.alloc (.cells #[.slice none 0 0] 36)).alloc (.cells #[sv l] 9)).alloc (.cells #[.string ⟨#[32]⟩] 9)) 3 #[.int .i64 0]
    simp only [World.size_alloc] at this
    rw [← hW0]; exact this
  rw [hW0]
  clear hW0
  have hpl : ∀ (r cur : Bs), (prt cur r).length ≤ r.length + 1 := by
    intro r
    induction r with
    | nil => intro cur; simp [prt]
    | cons b t ih =>
      intro cur
      simp only [prt]
      split
      · have := ih []; simp; omega
      · have := ih (cur ++ [b]); simp; omega
  refine range_turns rfl (by omega) (gf := 189) (lb := #[.pointer (some ⟨w.heap.size + 1 + 1, 0, none⟩), .pointer (some ⟨w.heap.size + 1, 0, none⟩), .pointer (some ⟨w.heap.size + 1 + 1 + 1, 0, none⟩)]) rfl trivial (enters_of Tryz.func189 (by kernel_rfl) rfl)
    (fun x : Bs => #[sv x]) (fun _ => rfl) (Xt (w.heap.size + 1)) (Kx (w.heap.size + 1) (w.heap.size + 1 + 1) (w.heap.size + 1 + 1 + 1))
    (fun pre W => (∃ v, Boxed W w.heap.size 36 v ∧ W.ownsRow (w.heap.size + 1 + 1 + 1 + 1) 9 1 v (neP pre).length ((neP pre).map sv)) ∧ Below w.heap.size w W ∧ w.heap.size + 1 + 1 + 1 + 1 ≤ W.heap.size)
    (fun xs => xs = prt [] l) 1000001
    (fun x => { tmps := #[sv l, undef, .slice none 0 0, .pointer (some ⟨w.heap.size, 0, none⟩), sv x, sv l, .func (.func 189) #[] #[.pointer (some ⟨w.heap.size + 1 + 1, 0, none⟩), .pointer (some ⟨w.heap.size + 1, 0, none⟩), .pointer (some ⟨w.heap.size + 1 + 1 + 1, 0, none⟩)], sv x, undef, undef, undef, undef, undef, undef, undef], defers := [] })
    ?hIX ?hX ?hIp (fun h k => h.trans k) ?hKb ?hI0 ?hit ?assign ?body ?done
  case hIX =>
    rintro pre W W' ⟨⟨v, h1, h2⟩, h3, h4⟩ (rfl | ⟨u, rfl⟩)
    · exact ⟨⟨v, h1, h2⟩, h3, h4⟩
    · have hg : W.grownBy (W.setCell ⟨w.heap.size + 1, 0, none⟩ u) (some (w.heap.size + 1)) := gb_setCell (gb_refl _ _) _
      refine ⟨⟨v, (hg.block _ h1.lt (by simp)).trans h1, row_kept h2 hg (fun k hk e => ?_)⟩, h3.setCell (p := ⟨w.heap.size + 1, 0, none⟩) (by simp) u, by simpa using h4⟩
      have := (World.ownsRow.lt h2 k hk).1
      injection e with e
      omega
  case hX =>
    rintro W W' (rfl | ⟨u, rfl⟩)
    · exact KeepsFrom.refl _ _
    · exact (KeepsOthers.setCell _ _ _).from _
  case hIp =>
    rintro pre W l' o o' ⟨⟨v, h1, h2⟩, h3, h4⟩ hl' ho hc
    refine ⟨⟨v, ?_, ownsRow_putObj h2 _ ho hc⟩, h3.trans ?_, by simpa using h4⟩
    · exact ((grownBy_putObj' W l' o').block _ h1.lt (by simp; omega)).trans h1
    · exact (Below.refl _ W).grown (grownBy_putObj' W l' o') (by omega) (fun k e => by cases e; omega)
  case hKb =>
    intro W l' o o' hl' ho hc k hk
    have := (Array.getElem?_eq_some_iff.1 ho).1
    exact (grownBy_putObj' W l' o').block _ (by omega) (by simp; omega)
  case hI0 =>
    intro o
    have hg : W0.grownBy ((W0.alloc (.deferred (some []))).alloc o) none := gb_alloc (gb_alloc (gb_refl _ none) _) _
    exact ⟨⟨_, (hg.block _ k0.lt (by simp)).trans k0, World.ownsRow_nil _ _ _ _⟩, below_grown (gb_trans hg0 hg) (Nat.le_refl _), by have := hg.size; omega⟩
  case hit =>
    intro l' o J hJ hY hJ0
    have hg : W0.grownBy ((W0.alloc (.deferred (some []))).alloc o) none := gb_alloc (gb_alloc (gb_refl _ none) _) _
    exact split_in 3 1000001 (by omega) l' (w.heap.size + 1) (w.heap.size + 1 + 1) (w.heap.size + 1 + 1 + 1) l (by have := hpl l []; omega) (by omega) (by omega) (by omega) J hJ hY _ (k1.kept hg (by simp)) (k2.kept hg (by simp)) (k3.kept hg (by simp)) hJ0
  case assign =>
    intro l x W K hK
    gi_wp2
    exact hK
  case body =>
    rintro l' pre x W ⟨⟨v, hv, hrow⟩, hB, hsz⟩ hlN
    have hle := neP_le pre
    by_cases hx : x = []
    · subst hx
      gi_wp2
      have hrow2 : W.ownsRow (w.heap.size + 1 + 1 + 1 + 1) 9 1 v (neP (pre ++ [[]])).length ((neP (pre ++ [[]])).map sv) := by
        rw [neP_app, if_pos rfl, List.append_nil]
        exact hrow
      exact ⟨KeepsFrom.refl _ _, fun _ _ => rfl, v, hv, hrow2⟩
    · have hb : (x == []) = false := beq_eq_false_iff_ne.2 hx
      have hb2 : x.isEmpty = false := by simpa using hx
      have hc := hv.cell
      obtain ⟨nl, hnl⟩ : ∃ nl, (neP pre).length = nl := ⟨_, rfl⟩
      rw [hnl] at hrow hle
      gi_wp2_with (gi_at_builtin; refine wpListIn_append_own _ rfl _ _ 36 rfl (w.heap.size + 1 + 1 + 1 + 1) 9 i0 (.string ⟨#[]⟩) 1 16 Tryz.underlying36 hi hz0 hz1 hz2 rfl (by decide) _ _ _ rfl (hrow.alloc _) ⟨W.heap.size, 0, none⟩ 1 1 [sv x] rfl rfl (cell_one_new _ _ _) (by simp [Value.oneCell']) (by unfold maxLen; omega) (by omega) (by simp; omega) ?_; intro v' w1 hown' hgrow _; obtain ⟨g', cap', rfl⟩ := ownsRow_succ hown'; obtain ⟨hv1, hv2, hr2, hk2, hb2⟩ := hv.appended (by decide) (row_base hrow (by omega : w.heap.size ≤ w.heap.size + 1 + 1 + 1 + 1)) hB.size (Nat.le_refl _) (row_base hown' (by omega : w.heap.size ≤ w.heap.size + 1 + 1 + 1 + 1)) hgrow; have hc1 := hv1.cell; have hf1 := hv1.frozen)
      refine ⟨hk2.from _, fun k hk => ?_, ⟨_, hv2, ?_⟩, hB.trans hb2, by have := hk2.size; simp at this; omega⟩
      · have hkl : k < W.heap.size := by omega
        have h1 : (W.alloc (.cells #[sv x] 9)).heap[k]? = W.heap[k]? := (gb_alloc (gb_refl W none) _).block k hkl (by simp)
        have h2 := hgrow.block k (by simp; omega) (fun e => by have := (World.ownsRow.lt hrow k e.symm).1; omega)
        have h3 := (gb_setCell (gb_refl w1 (some w.heap.size)) (i := 0) (.slice (some ⟨g', 0, none⟩) (nl + 1) cap')).block k (by have := hgrow.size; simp at this; omega) (by simp; omega)
        exact h3.trans (h2.trans h1)
      · have h1 := row_kept hown' (gb_setCell (gb_refl w1 (some w.heap.size)) (i := 0) (.slice (some ⟨g', 0, none⟩) (nl + 1) cap')) (fun k hk e => by
          injection e with e
          have := (World.ownsRow.lt hown' k hk).1
          omega)
        rw [neP_app, if_neg hx, List.length_append, hnl, List.map_append]
        exact h1
  case done =>
    rintro D ys W hD rfl ⟨⟨v, hv, hrow⟩, hB, hsz⟩ hK
    have hc := hv.cell
    gi_wp2
    refine ⟨by simp, .inl ⟨_, _, rfl, run_takeDeferred hK, ?_⟩⟩
    refine ⟨_, results_tmp rfl _ _ _, v, rfl, ?_, ?_⟩
    · have := row_base (ownsRow_putObj hrow (.deferred none) hK rfl) (by omega : w.heap.size ≤ w.heap.size + 1 + 1 + 1 + 1)
      rw [spl_prt]
      exact this
    · have := hB.trans ((Below.refl _ W).grown (grownBy_putObj' W D (.deferred none)) (by omega) (fun k e => by cases e; omega))
      exact gb_below this
end Go.Proofs.YtobegepebochkaaGreatDoor
/-
  Rows.
-/
namespace Go.Proofs.YtobegepebochkaaGreatDoor
open Go.RowKit Go.Maps
set_option linter.unusedVariables false
set_option linter.unusedSimpArgs false

theorem key9 : Keyed Tryz.prog 9 := string_keyed Tryz.underlying9
theorem keyOf9 (l : Bs) (hl : l.length ≤ 1099511627776) : ∃ k, keyOf Tryz.prog 9 (sv l) = some k := by
  simp [keyOf, Tryz.underlying9, mapKey]
  rw [ba_size]; unfold maxLen; omega
theorem sv_inj {a c : Bs} (hac : sv a = sv c) : a = c := by
  injection hac with hac
  have := congrArg (fun b : ByteArray => b.data.toList) hac
  simpa using this
/-- The entries of a map of rows. -/
def ents (L : List (Bs × Rw)) : List MapEntry := L.zipIdx.map fun p => ⟨sv p.1.1, rv p.1.2, p.2⟩
theorem ents_app (L : List (Bs × Rw)) (p : Bs × Rw) : ents (L ++ [p]) = ents L ++ [⟨sv p.1, rv p.2, L.length⟩] := by simp [ents, List.zipIdx_append]
theorem ents_get (L : List (Bs × Rw)) (j : Nat) : (ents L)[j]? = L[j]?.map fun p => ⟨sv p.1, rv p.2, j⟩ := by simp [ents, List.getElem?_zipIdx, Option.map_map]; rfl
theorem ents_mem {L : List (Bs × Rw)} {e : MapEntry} (h : e ∈ ents L) : ∃ p ∈ L, e.key = sv p.1 ∧ e.val = rv p.2 := by
  obtain ⟨j, hj⟩ := List.mem_iff_getElem?.1 h
  rw [ents_get] at hj
  cases hp : L[j]? with
  | none => simp [hp] at hj
  | some p =>
    simp [hp] at hj
    subst hj
    exact ⟨p, List.mem_of_getElem? hp, rfl, rfl⟩
/-- Block b is a map of rows. -/
def GM (w : World) (b : Nat) (L : List (Bs × Rw)) : Prop := w.heap[b]? = some (.map (ents L).toArray L.length)
theorem GM.kept {w w' : World} {b : Nat} {L : List (Bs × Rw)} {row : Option Nat} (h : GM w b L) (hg : w.grownBy w' row) (hn : some b ≠ row) : GM w' b L := (hg.block b (lt_of_block h) hn).trans h
theorem GM.push {w : World} {b : Nat} {L : List (Bs × Rw)} (h : GM w b L) (x : Bs) (r : Rw) (hx : ∀ p ∈ L, p.1 ≠ x) (hL : ∀ p ∈ L, p.1.length ≤ 1099511627776) (hxl : x.length ≤ 1099511627776) :
    ∃ W, (Instr.mapUpdate 118 (.map (some b)) (sv x) (rv r)).run Tryz.prog w = .ok () W ∧ GM W b (L ++ [(x, r)]) ∧ w.grownBy W (some b) := by
  obtain ⟨k, hk⟩ := keyOf9 x hxl
  have hall : ∀ e ∈ ents L, ∃ l, keyOf Tryz.prog 9 e.key = some l := fun e he => by
    obtain ⟨p, hp, h1, _⟩ := ents_mem he
    rw [h1]; exact keyOf9 p.1 (hL p hp)
  have hc := key9.check w false hk
  rcases key9.find w hk (ents L) hall with ⟨hf, _⟩ | ⟨j, e, hf, he, hek⟩
  · refine ⟨w.putObj b (.map ((ents L).toArray.push ⟨sv x, rv r, L.length⟩) (L.length + 1)), ?_, ?_, grownBy_putObj' _ _ _⟩
    · have h' : w.heap[b]? = some (.map (ents L).toArray L.length) := h
      simp [Instr.mapUpdate, go_sem, getObj, Sem.run, h', hc, hf]
      simp [setObj, Sem.run, World.putObj, h']
    · have := World.putObj_heap_same (w := w) (o := .map ((ents L).toArray.push ⟨sv x, rv r, L.length⟩) (L.length + 1)) (lt_of_block h)
      rw [GM, this, ents_app]; simp
  · obtain ⟨p, hp, h1, _⟩ := ents_mem (List.mem_of_getElem? he)
    rw [h1] at hek
    exact absurd (sv_inj hek) (hx p hp)

theorem lookup_nodup : ∀ {L : List (Bs × Rw)} {p : Bs × Rw}, (L.map Prod.fst).Nodup → p ∈ L → L.lookup p.1 = some p.2
  | [], _, _, h => by cases h
  | q :: t, p, hd, h => by
    simp only [List.map_cons, List.nodup_cons] at hd
    rw [List.lookup_cons]
    rcases List.mem_cons.1 h with rfl | h1
    · simp
    · have hne : ¬ p.1 = q.1 := fun e => hd.1 (e ▸ List.mem_map_of_mem h1)
      rw [show (p.1 == q.1) = false from beq_eq_false_iff_ne.2 hne]
      exact lookup_nodup hd.2 h1
theorem GM.look {w : World} {b : Nat} {L : List (Bs × Rw)} (h : GM w b L) (hd : (L.map Prod.fst).Nodup) (x : Bs) (hL : ∀ p ∈ L, p.1.length ≤ 1099511627776) (hxl : x.length ≤ 1099511627776) :
    (Instr.lookup 118 (.map (some b)) (sv x) true).run Tryz.prog w = .ok (.tuple #[rv ((L.lookup x).getD ⟨0, [], [], false, false⟩), .bool (L.lookup x).isSome]) w := by
  obtain ⟨k, hk⟩ := keyOf9 x hxl
  have hall : ∀ e ∈ ents L, ∃ l, keyOf Tryz.prog 9 e.key = some l := fun e he => by
    obtain ⟨p, hp, h1, _⟩ := ents_mem he
    rw [h1]; exact keyOf9 p.1 (hL p hp)
  have hc := key9.check w (ents L).toArray.isEmpty hk
  have h' : w.heap[b]? = some (.map (ents L).toArray L.length) := h
  have hz : (zeroValue 148).run Tryz.prog w = .ok (rv ⟨0, [], [], false, false⟩) w := Tryz.zeroValue148 w
  rcases key9.find w hk (ents L) hall with ⟨hf, hno⟩ | ⟨j, e, hf, he, hek⟩
  · have hl : L.lookup x = none := by
      rw [List.lookup_eq_none_iff]
      intro p hp
      obtain ⟨j, hj⟩ := List.mem_iff_getElem?.1 hp
      have h1 : (ents L)[j]? = some ⟨sv p.1, rv p.2, j⟩ := by rw [ents_get, hj]; rfl
      have h2 := hno _ (List.mem_of_getElem? h1)
      rw [bne_iff_ne]
      rintro rfl
      exact h2 rfl
    rw [hl]
    simp [Instr.lookup, go_sem, getObj, Sem.run, h', hc, hf, hz] at hc ⊢
    simp [Instr.lookup, go_sem, getObj, Sem.run, h', hc, hf, hz]
  · rw [ents_get] at he
    cases hj : L[j]? with
    | none => simp [hj] at he
    | some p =>
      simp [hj] at he
      subst he
      have hx : p.1 = x := sv_inj hek
      have hl : L.lookup x = some p.2 := by
        rw [← hx]
        exact lookup_nodup hd (List.mem_of_getElem? hj)
      rw [hl]
      simp [Instr.lookup, go_sem, getObj, Sem.run, h', hc, hf] at hc ⊢
      simp [Instr.lookup, go_sem, getObj, Sem.run, h', hc, hf]

theorem rowS_ok {x : Bs} {r : Rw} (h : rowS x = some r) : Rok r := by
  have hall : ∀ p ∈ rowL, (p.2.wants.length ≤ 100 ∧ p.2.may.length ≤ 100) ∧ (∀ a ∈ p.2.wants ++ p.2.may, a ∈ Lts) ∧ (p.2.wants ++ p.2.may = [] → p.2.endless = false) := by decide
  have hm : ∃ p ∈ rowL, p.2 = r := by
    rw [rowS, List.lookup_eq_some_iff] at h
    obtain ⟨l1, l2, h1, _⟩ := h
    exact ⟨(x, r), by rw [h1]; simp, rfl⟩
  obtain ⟨p, hp, rfl⟩ := hm
  obtain ⟨h1, h2, h3⟩ := hall p hp
  exact ⟨h1, h2, h3⟩
set_option maxRecDepth 100000 in
set_option maxHeartbeats 4000000 in
theorem rows_9 (w : World) : Calls Tryz.prog 62 #[] w fun e w' => e = .returned (.map (some w.heap.size)) ∧ GM w' w.heap.size rowL ∧ w.grownBy w' none := by
  obtain ⟨W0, hW0⟩ : ∃ W0, w.alloc (.map #[] 0) = W0 := ⟨_, rfl⟩
  have hmm : (Instr.makeMap 118 none).run Tryz.prog w = .ok (.map (some w.heap.size)) W0 := by rw [← hW0]; exact run_makeMap _ _
  have g0 : GM W0 w.heap.size [] := by rw [← hW0]; exact heap_alloc_new w _
  have k0 : w.grownBy W0 none := by rw [← hW0]; exact gb_alloc (gb_refl _ _) _
  obtain ⟨W1, h1, g1, k1⟩ := g0.push [103, 101, 116] ⟨1, [75], [75], true, false⟩ (by decide) (by decide) (by decide)
  obtain ⟨W2, h2, g2, k2⟩ := g1.push [103, 101, 116, 115] ⟨2, [75], [75], true, false⟩ (by decide) (by decide) (by decide)
  obtain ⟨W3, h3, g3, k3⟩ := g2.push [103, 97, 116] ⟨3, [84, 75], [75], true, false⟩ (by decide) (by decide) (by decide)
  obtain ⟨W4, h4, g4, k4⟩ := g3.push [103, 97, 116, 115] ⟨4, [84, 75], [75], true, false⟩ (by decide) (by decide) (by decide)
  obtain ⟨W5, h5, g5, k5⟩ := g4.push [115, 101, 116] ⟨5, [75, 70, 84, 78], [], false, true⟩ (by decide) (by decide) (by decide)
  obtain ⟨W6, h6, g6, k6⟩ := g5.push [97, 100, 100] ⟨6, [75, 70, 84, 78], [], false, true⟩ (by decide) (by decide) (by decide)
  obtain ⟨W7, h7, g7, k7⟩ := g6.push [114, 101, 112, 108, 97, 99, 101] ⟨7, [75, 70, 84, 78], [], false, true⟩ (by decide) (by decide) (by decide)
  obtain ⟨W8, h8, g8, k8⟩ := g7.push [97, 112, 112, 101, 110, 100] ⟨8, [75, 70, 84, 78], [], false, true⟩ (by decide) (by decide) (by decide)
  obtain ⟨W9, h9, g9, k9⟩ := g8.push [112, 114, 101, 112, 101, 110, 100] ⟨9, [75, 70, 84, 78], [], false, true⟩ (by decide) (by decide) (by decide)
  obtain ⟨W10, h10, g10, k10⟩ := g9.push [99, 97, 115] ⟨10, [75, 70, 84, 78, 67], [], false, true⟩ (by decide) (by decide) (by decide)
  obtain ⟨W11, h11, g11, k11⟩ := g10.push [100, 101, 108, 101, 116, 101] ⟨11, [75], [48], false, true⟩ (by decide) (by decide) (by decide)
  obtain ⟨W12, h12, g12, k12⟩ := g11.push [105, 110, 99, 114] ⟨12, [75, 68], [], false, true⟩ (by decide) (by decide) (by decide)
  obtain ⟨W13, h13, g13, k13⟩ := g12.push [100, 101, 99, 114] ⟨13, [75, 68], [], false, true⟩ (by decide) (by decide) (by decide)
  obtain ⟨W14, h14, g14, k14⟩ := g13.push [116, 111, 117, 99, 104] ⟨14, [75, 84], [], false, true⟩ (by decide) (by decide) (by decide)
  obtain ⟨W15, h15, g15, k15⟩ := g14.push [102, 108, 117, 115, 104, 95, 97, 108, 108] ⟨15, [], [76], false, true⟩ (by decide) (by decide) (by decide)
  obtain ⟨W16, h16, g16, k16⟩ := g15.push [118, 101, 114, 115, 105, 111, 110] ⟨16, [], [], false, false⟩ (by decide) (by decide) (by decide)
  obtain ⟨W17, h17, g17, k17⟩ := g16.push [118, 101, 114, 98, 111, 115, 105, 116, 121] ⟨17, [86], [], false, true⟩ (by decide) (by decide) (by decide)
  obtain ⟨W18, h18, g18, k18⟩ := g17.push [113, 117, 105, 116] ⟨18, [], [], false, false⟩ (by decide) (by decide) (by decide)
  obtain ⟨W19, h19, g19, k19⟩ := g18.push [115, 116, 97, 116, 115] ⟨19, [], [87], false, false⟩ (by decide) (by decide) (by decide)
  obtain ⟨W20, h20, g20, k20⟩ := g19.push [109, 103] ⟨20, [75], [77], true, false⟩ (by decide) (by decide) (by decide)
  obtain ⟨W21, h21, g21, k21⟩ := g20.push [109, 115] ⟨21, [75, 78], [77], true, false⟩ (by decide) (by decide) (by decide)
  obtain ⟨W22, h22, g22, k22⟩ := g21.push [109, 100] ⟨22, [75], [77], true, false⟩ (by decide) (by decide) (by decide)
  obtain ⟨W23, h23, g23, k23⟩ := g22.push [109, 97] ⟨23, [75], [77], true, false⟩ (by decide) (by decide) (by decide)
  obtain ⟨W24, h24, g24, k24⟩ := g23.push [109, 110] ⟨24, [], [], false, false⟩ (by decide) (by decide) (by decide)
  have kk := (gb_trans (gb_trans (gb_trans (gb_trans (gb_trans (gb_trans (gb_trans (gb_trans (gb_trans (gb_trans (gb_trans (gb_trans (gb_trans (gb_trans (gb_trans (gb_trans (gb_trans (gb_trans (gb_trans (gb_trans (gb_trans (gb_trans (gb_trans k1 k2) k3) k4) k5) k6) k7) k8) k9) k10) k11) k12) k13) k14) k15) k16) k17) k18) k19) k20) k21) k22) k23) k24)
  have GF : Hid (GM W24 w.heap.size rowL ∧ w.grownBy W24 none) := ⟨g24, gb_mine k0 kk (Nat.le_refl _)⟩
  clear kk g0 k0 hW0 g1 k1 g2 k2 g3 k3 g4 k4 g5 k5 g6 k6 g7 k7 g8 k8 g9 k9 g10 k10 g11 k11 g12 k12 g13 k13 g14 k14 g15 k15 g16 k16 g17 k17 g18 k18 g19 k19 g20 k20 g21 k21 g22 k22 g23 k23 g24 k24
  go_enter Tryz.func62, Tryz.ntmps62
  go_wp2
  go_ret
  exact ⟨rfl, GF.out⟩
end Go.Proofs.YtobegepebochkaaGreatDoor
