import Derived.Test.YtobegepebochkaaGreatDoorVH
import Derived.RangeFuncNested
import Derived.RangeFuncBound
import Derived.RangeFuncCalls
import Derived.RangeFuncLeaves
import Derived.Shelf.Abstract
import Derived.Shelf.RegionOpen
import Derived.WalkKit
import Derived.OwnWalkIn
import Derived.TacticsInMore
import Derived.LoopNIn
import Derived.LoopIn
import Derived.Maps.AppendAt
set_option linter.unusedVariables false
set_option linter.unusedSimpArgs false
namespace Go.Proofs.YtobegepebochkaaGreatDoor
open Go.RowKit
set_option maxRecDepth 100000 in
set_option maxHeartbeats 4000000 in
theorem read_0f {w : World} (rv0 : Int) (rw0 rm0 : Bs) (re0 rq0 : Bool) (hR : Rok ⟨rv0, rw0, rm0, re0, rq0⟩) (hq : rq0 = false) (a : Option Addr) (cp : Nat) (hE : Er w) :
    Calls Tryz.prog 103 #[rv ⟨rv0, rw0, rm0, re0, rq0⟩, .slice a 0 cp] w fun e w' => RdP ⟨rv0, rw0, rm0, re0, rq0⟩ [] w e w' := by
  subst hq
  have hrd : readS ⟨rv0, rw0, rm0, re0, false⟩ [] = rdV ⟨rv0, rw0, rm0, re0, false⟩ false [] := by
    have : qt ⟨rv0, rw0, rm0, re0, false⟩ [] = false := by simp [qt]
    simp [readS, rdV, this]
  obtain ⟨hM3, hr3, hrB, hgw3⟩ := rd0 w rv0 rw0 rm0 re0 false false
  have d0 : decide ((rw0.length : Int) ≤ -1) = false := decide_eq_false (by omega)
  have hRok := hR.le
  have hT : ∀ W, Calls Tryz.prog 143 #[rv ⟨rv0, rw0, rm0, re0, false⟩, .int .i64 0] W fun e w' => e = .returned (.bool (takes ⟨rv0, rw0, rm0, re0, false⟩ 0)) ∧ W.grownBy w' none := fun W => takes_31 ⟨rv0, rw0, rm0, re0, false⟩ 0 (by omega) hRok.1 hRok.2 W
  obtain ⟨tk, htk⟩ : ∃ tk, takes ⟨rv0, rw0, rm0, re0, false⟩ 0 = tk := ⟨_, rfl⟩
  simp only [htk] at hT
  cases tk with
  | false =>
    have HR : Hid (readS ⟨rv0, rw0, rm0, re0, false⟩ [] = .inr badLine) := by
      show _ = _
      rw [hrd]; simp [rdV, htk]
    clear hrd htk hrB hM3 hr3
    go_enter Tryz.func103, Tryz.ntmps103
    go_wp2_with (first | (go_at_call 143; with_reducible refine (hT _).mono ?_; rintro e w4 ⟨rfl, hg4⟩) | (go_at_call 141; with_reducible refine (giveUp_27 _ _).mono ?_; rintro e w5 ⟨rfl, rfl⟩))
    exact ⟨rfl, .inr ⟨_, HR.out, rfl⟩, gb_trans hgw3 hg4⟩
  | true =>
    have HR : Hid (readS ⟨rv0, rw0, rm0, re0, false⟩ [] = .inl (cmd0 rv0 false)) := by
      show _ = _
      rw [hrd]; simp only [rdV, List.length_nil, htk, if_true]; rfl
    clear hrd
    have h34 := fun W => flags_nil rv0 none 0 W
    go_enter Tryz.func103, Tryz.ntmps103
    go_wp2_with (first | (go_at_call 143; with_reducible refine (hT _).mono ?_; rintro e w4 ⟨rfl, hg4⟩; (have h4 := hM3.kept hg4); (have hr4 := hr3.kept hg4 (by simp)); (have hrB4 := hrB.kept hg4 (by simp)); (have hgw4 := gb_trans hgw3 hg4); clear hM3 hr3 hg4 hgw3 hrB hT))
    go_loopw [44] (fun x wr => x = .int .i64 0 ∧ wr = w4) (fun _ _ => 0)
    case atStart => exact ⟨rfl, rfl⟩
    case round =>
      obtain ⟨rfl, rfl⟩ := hrel
      have y0 : wr.cell? ⟨w.heap.size, 0, none⟩ = some (.int .i64 rv0) := hr4.cell 0
      have y9 : wr.cell? ⟨w.heap.size + 1 + 1, 9, none⟩ = some (.slice none 0 0) := h4.box.cell 9
      go_wp2_with (go_at_call 37; go_must ((with_reducible refine (h34 _).mono ?_); rintro e w7 ⟨rfl, hg7⟩; (have m0 : w7.cell? ⟨w.heap.size + 1 + 1, 0, none⟩ = some (.int .i64 rv0) := (h4.kept hg7).box.cell 0); (have m1 : w7.cell? ⟨w.heap.size + 1 + 1, 1, none⟩ = some (.slice none 0 0) := (h4.kept hg7).box.cell 1); (have m2 : w7.cell? ⟨w.heap.size + 1 + 1, 2, none⟩ = some (.int .u64 0) := (h4.kept hg7).box.cell 2); (have m3 : w7.cell? ⟨w.heap.size + 1 + 1, 3, none⟩ = some (.int .i64 0) := (h4.kept hg7).box.cell 3); (have m4 : w7.cell? ⟨w.heap.size + 1 + 1, 4, none⟩ = some (.int .u64 0) := (h4.kept hg7).box.cell 4); (have m5 : w7.cell? ⟨w.heap.size + 1 + 1, 5, none⟩ = some (.int .u64 0) := (h4.kept hg7).box.cell 5); (have m6 : w7.cell? ⟨w.heap.size + 1 + 1, 6, none⟩ = some (.slice none 0 0) := (h4.kept hg7).box.cell 6); (have m7 : w7.cell? ⟨w.heap.size + 1 + 1, 7, none⟩ = some (.bool false) := (h4.kept hg7).box.cell 7); (have m8 : w7.cell? ⟨w.heap.size + 1 + 1, 8, none⟩ = some (.bool false) := (h4.kept hg7).box.cell 8); (have m9 : w7.cell? ⟨w.heap.size + 1 + 1, 9, none⟩ = some (.slice none 0 0) := (h4.kept hg7).box.cell 9); (have m10 : w7.cell? ⟨w.heap.size + 1 + 1, 10, none⟩ = some (.string ⟨#[]⟩) := (h4.kept hg7).box.cell 10); (have r0 : w7.cell? ⟨w.heap.size + 1, 0, none⟩ = some (.int .i64 0) := (hrB4.kept hg7 (by simp)).cell 0); (have r1 : w7.cell? ⟨w.heap.size + 1, 1, none⟩ = some (.slice none 0 0) := (hrB4.kept hg7 (by simp)).cell 1); (have r2 : w7.cell? ⟨w.heap.size + 1, 2, none⟩ = some (.int .u64 0) := (hrB4.kept hg7 (by simp)).cell 2); (have r3 : w7.cell? ⟨w.heap.size + 1, 3, none⟩ = some (.int .i64 0) := (hrB4.kept hg7 (by simp)).cell 3); (have r4 : w7.cell? ⟨w.heap.size + 1, 4, none⟩ = some (.int .u64 0) := (hrB4.kept hg7 (by simp)).cell 4); (have r5 : w7.cell? ⟨w.heap.size + 1, 5, none⟩ = some (.int .u64 0) := (hrB4.kept hg7 (by simp)).cell 5); (have r6 : w7.cell? ⟨w.heap.size + 1, 6, none⟩ = some (.slice none 0 0) := (hrB4.kept hg7 (by simp)).cell 6); (have r7 : w7.cell? ⟨w.heap.size + 1, 7, none⟩ = some (.bool false) := (hrB4.kept hg7 (by simp)).cell 7); (have r8 : w7.cell? ⟨w.heap.size + 1, 8, none⟩ = some (.bool false) := (hrB4.kept hg7 (by simp)).cell 8); (have r9 : w7.cell? ⟨w.heap.size + 1, 9, none⟩ = some (.slice none 0 0) := (hrB4.kept hg7 (by simp)).cell 9); (have r10 : w7.cell? ⟨w.heap.size + 1, 10, none⟩ = some (.string ⟨#[]⟩) := (hrB4.kept hg7 (by simp)).cell 10); (have z0 := (hrB4.kept hg7 (by simp)).fz 0); (have z1 := (hrB4.kept hg7 (by simp)).fz 1); (have z2 := (hrB4.kept hg7 (by simp)).fz 2); (have z3 := (hrB4.kept hg7 (by simp)).fz 3); (have z4 := (hrB4.kept hg7 (by simp)).fz 4); (have z5 := (hrB4.kept hg7 (by simp)).fz 5); (have z6 := (hrB4.kept hg7 (by simp)).fz 6); (have z7 := (hrB4.kept hg7 (by simp)).fz 7); (have z8 := (hrB4.kept hg7 (by simp)).fz 8); (have z9 := (hrB4.kept hg7 (by simp)).fz 9); (have z10 := (hrB4.kept hg7 (by simp)).fz 10)))
      obtain ⟨hbx, hgx⟩ := box11 (v0 := .int .i64 rv0) (v1 := .slice none 0 0) (v2 := .int .u64 0) (v3 := .int .i64 0) (v4 := .int .u64 0) (v5 := .int .u64 0) (v6 := .slice none 0 0) (v7 := .bool false) (v8 := .bool false) (v9 := .slice none 0 0) (v10 := .string ⟨#[]⟩) (hrB4.kept hg7 (by simp))
      refine ⟨rfl, _, load31 hbx _ rfl, .inl ⟨cmd0 rv0 false, .slice none 0 0, .slice none 0 0, HR.out, rfl, World.ownsRow_nil _ _ _ _, World.ownsRow_nil _ _ _ _⟩, gb_mine (gb_trans hgw4 hg7) hgx (by omega)⟩
set_option maxRecDepth 100000 in
set_option maxHeartbeats 4000000 in
theorem read_0t {w : World} (rv0 : Int) (rw0 rm0 : Bs) (re0 rq0 : Bool) (hR : Rok ⟨rv0, rw0, rm0, re0, rq0⟩) (hq : rq0 = true) (a : Option Addr) (cp : Nat) (hE : Er w) :
    Calls Tryz.prog 103 #[rv ⟨rv0, rw0, rm0, re0, rq0⟩, .slice a 0 cp] w fun e w' => RdP ⟨rv0, rw0, rm0, re0, rq0⟩ [] w e w' := by
  subst hq
  have hrd : readS ⟨rv0, rw0, rm0, re0, true⟩ [] = rdV ⟨rv0, rw0, rm0, re0, true⟩ false [] := by
    have : qt ⟨rv0, rw0, rm0, re0, true⟩ [] = false := by simp [qt]
    simp [readS, rdV, this]
  obtain ⟨hM3, hr3, hrB, hgw3⟩ := rd0 w rv0 rw0 rm0 re0 true false
  have d0 : decide ((rw0.length : Int) ≤ -1) = false := decide_eq_false (by omega)
  have hRok := hR.le
  have hT : ∀ W, Calls Tryz.prog 143 #[rv ⟨rv0, rw0, rm0, re0, true⟩, .int .i64 0] W fun e w' => e = .returned (.bool (takes ⟨rv0, rw0, rm0, re0, true⟩ 0)) ∧ W.grownBy w' none := fun W => takes_31 ⟨rv0, rw0, rm0, re0, true⟩ 0 (by omega) hRok.1 hRok.2 W
  obtain ⟨tk, htk⟩ : ∃ tk, takes ⟨rv0, rw0, rm0, re0, true⟩ 0 = tk := ⟨_, rfl⟩
  simp only [htk] at hT
  cases tk with
  | false =>
    have HR : Hid (readS ⟨rv0, rw0, rm0, re0, true⟩ [] = .inr badLine) := by
      show _ = _
      rw [hrd]; simp [rdV, htk]
    clear hrd htk hrB hM3 hr3
    go_enter Tryz.func103, Tryz.ntmps103
    go_wp2_with (first | (go_at_call 143; with_reducible refine (hT _).mono ?_; rintro e w4 ⟨rfl, hg4⟩) | (go_at_call 141; with_reducible refine (giveUp_27 _ _).mono ?_; rintro e w5 ⟨rfl, rfl⟩))
    exact ⟨rfl, .inr ⟨_, HR.out, rfl⟩, gb_trans hgw3 hg4⟩
  | true =>
    have HR : Hid (readS ⟨rv0, rw0, rm0, re0, true⟩ [] = .inl (cmd0 rv0 false)) := by
      show _ = _
      rw [hrd]; simp only [rdV, List.length_nil, htk, if_true]; rfl
    clear hrd
    have h34 := fun W => flags_nil rv0 none 0 W
    go_enter Tryz.func103, Tryz.ntmps103
    go_wp2_with (first | (go_at_call 143; with_reducible refine (hT _).mono ?_; rintro e w4 ⟨rfl, hg4⟩; (have h4 := hM3.kept hg4); (have hr4 := hr3.kept hg4 (by simp)); (have hrB4 := hrB.kept hg4 (by simp)); (have hgw4 := gb_trans hgw3 hg4); clear hM3 hr3 hg4 hgw3 hrB hT))
    go_loopw [44] (fun x wr => x = .int .i64 0 ∧ wr = w4) (fun _ _ => 0)
    case atStart => exact ⟨rfl, rfl⟩
    case round =>
      obtain ⟨rfl, rfl⟩ := hrel
      have y0 : wr.cell? ⟨w.heap.size, 0, none⟩ = some (.int .i64 rv0) := hr4.cell 0
      have y9 : wr.cell? ⟨w.heap.size + 1 + 1, 9, none⟩ = some (.slice none 0 0) := h4.box.cell 9
      go_wp2_with (go_at_call 37; go_must ((with_reducible refine (h34 _).mono ?_); rintro e w7 ⟨rfl, hg7⟩; (have m0 : w7.cell? ⟨w.heap.size + 1 + 1, 0, none⟩ = some (.int .i64 rv0) := (h4.kept hg7).box.cell 0); (have m1 : w7.cell? ⟨w.heap.size + 1 + 1, 1, none⟩ = some (.slice none 0 0) := (h4.kept hg7).box.cell 1); (have m2 : w7.cell? ⟨w.heap.size + 1 + 1, 2, none⟩ = some (.int .u64 0) := (h4.kept hg7).box.cell 2); (have m3 : w7.cell? ⟨w.heap.size + 1 + 1, 3, none⟩ = some (.int .i64 0) := (h4.kept hg7).box.cell 3); (have m4 : w7.cell? ⟨w.heap.size + 1 + 1, 4, none⟩ = some (.int .u64 0) := (h4.kept hg7).box.cell 4); (have m5 : w7.cell? ⟨w.heap.size + 1 + 1, 5, none⟩ = some (.int .u64 0) := (h4.kept hg7).box.cell 5); (have m6 : w7.cell? ⟨w.heap.size + 1 + 1, 6, none⟩ = some (.slice none 0 0) := (h4.kept hg7).box.cell 6); (have m7 : w7.cell? ⟨w.heap.size + 1 + 1, 7, none⟩ = some (.bool false) := (h4.kept hg7).box.cell 7); (have m8 : w7.cell? ⟨w.heap.size + 1 + 1, 8, none⟩ = some (.bool false) := (h4.kept hg7).box.cell 8); (have m9 : w7.cell? ⟨w.heap.size + 1 + 1, 9, none⟩ = some (.slice none 0 0) := (h4.kept hg7).box.cell 9); (have m10 : w7.cell? ⟨w.heap.size + 1 + 1, 10, none⟩ = some (.string ⟨#[]⟩) := (h4.kept hg7).box.cell 10); (have r0 : w7.cell? ⟨w.heap.size + 1, 0, none⟩ = some (.int .i64 0) := (hrB4.kept hg7 (by simp)).cell 0); (have r1 : w7.cell? ⟨w.heap.size + 1, 1, none⟩ = some (.slice none 0 0) := (hrB4.kept hg7 (by simp)).cell 1); (have r2 : w7.cell? ⟨w.heap.size + 1, 2, none⟩ = some (.int .u64 0) := (hrB4.kept hg7 (by simp)).cell 2); (have r3 : w7.cell? ⟨w.heap.size + 1, 3, none⟩ = some (.int .i64 0) := (hrB4.kept hg7 (by simp)).cell 3); (have r4 : w7.cell? ⟨w.heap.size + 1, 4, none⟩ = some (.int .u64 0) := (hrB4.kept hg7 (by simp)).cell 4); (have r5 : w7.cell? ⟨w.heap.size + 1, 5, none⟩ = some (.int .u64 0) := (hrB4.kept hg7 (by simp)).cell 5); (have r6 : w7.cell? ⟨w.heap.size + 1, 6, none⟩ = some (.slice none 0 0) := (hrB4.kept hg7 (by simp)).cell 6); (have r7 : w7.cell? ⟨w.heap.size + 1, 7, none⟩ = some (.bool false) := (hrB4.kept hg7 (by simp)).cell 7); (have r8 : w7.cell? ⟨w.heap.size + 1, 8, none⟩ = some (.bool false) := (hrB4.kept hg7 (by simp)).cell 8); (have r9 : w7.cell? ⟨w.heap.size + 1, 9, none⟩ = some (.slice none 0 0) := (hrB4.kept hg7 (by simp)).cell 9); (have r10 : w7.cell? ⟨w.heap.size + 1, 10, none⟩ = some (.string ⟨#[]⟩) := (hrB4.kept hg7 (by simp)).cell 10); (have z0 := (hrB4.kept hg7 (by simp)).fz 0); (have z1 := (hrB4.kept hg7 (by simp)).fz 1); (have z2 := (hrB4.kept hg7 (by simp)).fz 2); (have z3 := (hrB4.kept hg7 (by simp)).fz 3); (have z4 := (hrB4.kept hg7 (by simp)).fz 4); (have z5 := (hrB4.kept hg7 (by simp)).fz 5); (have z6 := (hrB4.kept hg7 (by simp)).fz 6); (have z7 := (hrB4.kept hg7 (by simp)).fz 7); (have z8 := (hrB4.kept hg7 (by simp)).fz 8); (have z9 := (hrB4.kept hg7 (by simp)).fz 9); (have z10 := (hrB4.kept hg7 (by simp)).fz 10)))
      obtain ⟨hbx, hgx⟩ := box11 (v0 := .int .i64 rv0) (v1 := .slice none 0 0) (v2 := .int .u64 0) (v3 := .int .i64 0) (v4 := .int .u64 0) (v5 := .int .u64 0) (v6 := .slice none 0 0) (v7 := .bool false) (v8 := .bool false) (v9 := .slice none 0 0) (v10 := .string ⟨#[]⟩) (hrB4.kept hg7 (by simp))
      refine ⟨rfl, _, load31 hbx _ rfl, .inl ⟨cmd0 rv0 false, .slice none 0 0, .slice none 0 0, HR.out, rfl, World.ownsRow_nil _ _ _ _, World.ownsRow_nil _ _ _ _⟩, gb_mine (gb_trans hgw4 hg7) hgx (by omega)⟩
theorem read_18 {w : World} (r : Rw) (hR : Rok r) (v : Value) (ws : List Bs) (hws : ∀ x ∈ ws, x ≠ [] ∧ x.length ≤ 1099511627776) (hn : ws.length ≤ 1000000000) (hW : Ws w v ws) (hE : Er w) :
    Calls Tryz.prog 103 #[rv r, v] w fun e w' => RdP r ws w e w' := by
  obtain ⟨rv0, rw0, rm0, re0, rq0⟩ := r
  rcases hW with ⟨rfl, a, c, rfl⟩ | ⟨g, o, c, rfl, h1, h2, h3⟩
  · cases rq0 with
    | false => exact read_0f rv0 rw0 rm0 re0 false hR rfl a c hE
    | true => exact read_0t rv0 rw0 rm0 re0 true hR rfl a c hE
  cases rq0 with
  | false => exact read_1 rv0 rw0 rm0 re0 false hR ws hws ws.length rfl hn g o c h2 h1 h3 hE rfl
  | true =>
    rcases Nat.eq_zero_or_pos ws.length with h0 | h0
    · have h4 := List.length_eq_zero_iff.1 h0
      subst h4
      exact read_0t rv0 rw0 rm0 re0 true hR rfl _ c hE
    · obtain ⟨l, hl⟩ : ∃ l, ws.length = l + 1 := ⟨ws.length - 1, by omega⟩
      rcases Nat.lt_or_ge l rw0.length with h5 | h5
      · exact read_2 rv0 rw0 rm0 re0 true hR ws hws ws.length rfl hn g o c h2 h1 h3 hE rfl l hl h5
      · by_cases h6 : ws.getLast? = some noreply
        · rw [hl]
          exact read_4 rv0 rw0 rm0 re0 true hR ws hws l hl (by omega) g o c h2 (by omega) h3 hE rfl h5 h6
        · exact read_3 rv0 rw0 rm0 re0 true hR ws hws ws.length rfl hn g o c h2 h1 h3 hE rfl l hl h5 h6
theorem idx_of (s : Bs) (c : UInt8) : Lib.indexByte s c = match s.idxOf? c with | some i => (i : Int) | none => -1 := by
  induction s with
  | nil => rfl
  | cons b l ih =>
    simp only [Lib.indexByte, List.idxOf?_cons]
    by_cases hb : b = c
    · subst hb; simp
    · simp only [beq_iff_eq, hb, if_false, ih]
      cases l.idxOf? c with
      | none => simp
      | some i => simp
set_option maxRecDepth 100000 in
set_option maxHeartbeats 4000000 in
theorem pass_17 {w : World} (r : Rw) (hR : Rok r) (v : Value) (ws : List Bs) (hws : ∀ x ∈ ws, x ≠ [] ∧ x.length ≤ 1099511627776) (hn : ws.length ≤ 1000000000) (hW : Ws w v ws) (hE : Er w) :
    Calls Tryz.prog 102 #[rv r, v] w fun e w' => e = .returned (.int .i64 (passS r ws)) ∧ w.grownBy w' none := by
  have hgA : w.grownBy (w.alloc (.cells #[.int .i64 r.verb, sv r.wants, sv r.may, .bool r.endless, .bool r.quiet] 148)) none := gb_alloc (gb_refl _ _) _
  have hEA := hE.kept hgA
  obtain ⟨nv, hnv⟩ : ∃ nv, ws.length = nv := ⟨_, rfl⟩
  have hsh : ∃ a c, v = .slice a nv c := by
    rcases hW with ⟨rfl, a, c, rfl⟩ | ⟨g, o, c, rfl, _⟩
    · subst hnv; exact ⟨a, c, rfl⟩
    · subst hnv; exact ⟨_, c, rfl⟩
  obtain ⟨a, c, rfl⟩ := hsh
  cases hi : r.wants.idxOf? 78 with
  | none =>
    have hc : ∀ W, Calls Tryz.prog 130 #[sv r.wants, .int .u8 78] W fun e w' => e = .returned (.int .i64 (-1)) ∧ w' = W := fun W => by
      have := indexB_29 ⟨r.wants.toArray⟩ 78 W
      rw [show Lib.indexByte (ByteArray.mk r.wants.toArray).data.toList (78 : Int).toNat.toUInt8 = -1 from by show Lib.indexByte r.wants 78 = -1; rw [idx_of, hi]] at this
      exact this
    have hp : passS r ws = -1 := by simp [passS, hi]
    rw [hp]
    clear hW hi
    go_enter Tryz.func102, Tryz.ntmps102
    go_wp2_with (go_at_call 130; with_reducible refine (hc _).mono ?_; rintro e w' ⟨rfl, rfl⟩)
    go_ret
    exact ⟨rfl, hgA⟩
  | some i =>
    have hc : ∀ W, Calls Tryz.prog 130 #[sv r.wants, .int .u8 78] W fun e w' => e = .returned (.int .i64 i) ∧ w' = W := fun W => by
      have := indexB_29 ⟨r.wants.toArray⟩ 78 W
      rw [show Lib.indexByte (ByteArray.mk r.wants.toArray).data.toList (78 : Int).toNat.toUInt8 = (i : Int) from by show Lib.indexByte r.wants 78 = (i : Int); rw [idx_of, hi]] at this
      exact this
    have hi0 : decide ((i : Int) < 0) = false := decide_eq_false (by omega)
    rcases Nat.lt_or_ge i nv with hlt | hge
    · obtain ⟨x, hx⟩ : ∃ x, ws[i]? = some x := ⟨_, List.getElem?_eq_getElem (by omega)⟩
      have hd : decide ((nv : Int) ≤ (i : Int)) = false := decide_eq_false (by omega)
      have hd2 : ((i : Int) < (nv : Int)) := by omega
      obtain ⟨hx0, hxl⟩ := hws x (List.mem_of_getElem? hx)
      have hcl : ∃ g o, a = some ⟨g, o, none⟩ ∧ w.cell? ⟨g, o + i, none⟩ = some (sv x) := by
        rcases hW with ⟨rfl, _⟩ | ⟨g, o, c', h1, _, _, h3⟩
        · simp at hx
        · injection h1 with h1 _ _
          exact ⟨g, o, h1, h3 i x hx⟩
      obtain ⟨g, o, rfl, hcx⟩ := hcl
      have hcA := gb_cellN hgA hcx
      have h30 := fun W (hW : Er W) => number_30 x hxl 2147483647 2147483647 rfl (by omega) W hW
      cases hnb : nb 2147483647 x with
      | none =>
        have hp : passS r ws = -1 := by simp [passS, hi, hx, hnb]
        simp only [hnb] at h30
        rw [hp]
        clear hW hi hx hnb hws hp
        go_enter Tryz.func102, Tryz.ntmps102
        go_wp2_with (first | (go_at_call 130; with_reducible refine (hc _).mono ?_; rintro e w' ⟨rfl, rfl⟩) | (go_at_call 133; with_reducible refine (h30 _ hEA).mono ?_; rintro e w' ⟨rfl, hg⟩))
        go_ret
        exact ⟨rfl, gb_trans hgA hg⟩
      | some m =>
        have hm : m ≤ 2147483647 := by
          unfold nb at hnb
          split at hnb
          · split at hnb
            · injection hnb with hnb; omega
            · cases hnb
          · cases hnb
        have hp : passS r ws = (m : Int) := by simp [passS, hi, hx, hnb]
        simp only [hnb] at h30
        rw [hp]
        clear hp
        clear hW hi hx hnb hws
        go_enter Tryz.func102, Tryz.ntmps102
        go_wp2_with (first | (go_at_call 130; with_reducible refine (hc _).mono ?_; rintro e w' ⟨rfl, rfl⟩) | (go_at_call 133; with_reducible refine (h30 _ hEA).mono ?_; rintro e w' ⟨rfl, hg⟩))
        go_ret
        exact ⟨rfl, gb_trans hgA hg⟩
    · have hp : passS r ws = -1 := by
        have : ws[i]? = none := List.getElem?_eq_none (by omega)
        simp [passS, hi, this]
      have hd : decide ((nv : Int) ≤ (i : Int)) = true := decide_eq_true (by omega)
      rw [hp]
      clear hW hi
      go_enter Tryz.func102, Tryz.ntmps102
      go_wp2_with (go_at_call 130; with_reducible refine (hc _).mono ?_; rintro e w' ⟨rfl, rfl⟩)
      go_ret
      exact ⟨rfl, hgA⟩
end Go.Proofs.YtobegepebochkaaGreatDoor
namespace Go.Proofs.YtobegepebochkaaGreatDoor
open Go.RowKit Go.Shelf
section
variable {F : Fence} {n : Nat} {P : Program}
theorem range_turns {α : Type} {g : Operand} {ps : Array Tmp} {assign body : Code} {Q : Exit → Act → World → Prop} {a : Act} {w : World}
    (hro : F.round = none) (h1 : 1 ≤ n) {gf : Nat} {lb : Array Value} (hg : a.eval g = .func (.func gf) #[] lb) (hFg : F.fn gf) (eg : ∀ args w, (callFunc gf args).run P w = .ok (.enter gf args) w)
    (encs : α → Array Value) (hps : ∀ x, (encs x).size = ps.size) (X Kp : World → World → Prop) (I : List α → World → Prop) (S : List α → Prop) (N : Nat) (a₁ : α → Act)
    (hIX : ∀ pre W W', I pre W → X W W' → I pre W') (hX : ∀ W W', X W W' → KeepsFrom w.heap.size W W')
    (hIp : ∀ pre W l o o', I pre W → w.heap.size ≤ l → W.heap[l]? = some o → o.isCells = false → I pre (W.putObj l o'))
    (hKt : ∀ {A B C : World}, Kp A B → Kp B C → Kp A C) (hKb : ∀ (W : World) (l : Nat) (o o' : Obj), w.heap.size ≤ l → W.heap[l]? = some o → o.isCells = false → Kp W (W.putObj l o'))
    (hI0 : ∀ o, I [] ((w.alloc (.deferred (some []))).alloc o))
    (hit : ∀ (l : Nat) (o : Obj) (J : List α → World → Prop), (∀ pre W W', J pre W → X W W' → J pre W') →
      (∀ pre x W1, J pre W1 → pre.length < N → YieldAt F (n - 1 - 1) P l (encs x) W1 fun e W' => e = .returned (.bool true) ∧ J (pre ++ [x]) W' ∧ Kp W1 W') → J [] ((w.alloc (.deferred (some []))).alloc o) →
      CallsIn F (n - 1) P gf (#[.func (.yield l) #[] #[]] ++ lb) ((w.alloc (.deferred (some []))).alloc o) fun e W' => (∃ v, e = .returned v) ∧ ∃ xs, S xs ∧ J xs W')
    (hassign : ∀ (l : Nat) (x : α) (W : World) (K : Act → World → Prop), K (a₁ x) W →
      assign.wpIn (F.inRound l) (n - 1 - 1) P (Exit.then K (fun _ _ _ => False)) { tmps := (ps.zip (encs x)).foldl (fun t (p, v) => t.setIfInBounds p v) a.tmps, defers := [] } W)
    (hbody : ∀ (l : Nat) (pre : List α) (x : α) (W : World), I pre W → pre.length < N → body.wpIn (F.inRound l) (n - 1 - 1) P (fun e _ W' => e = .normal ∧ KeepsFrom w.heap.size W W' ∧ Kp W W' ∧ I (pre ++ [x]) W') (a₁ x) W)
    (hdone : ∀ (D : Nat) (xs : List α) (W : World), w.heap.size ≤ D → S xs → I xs W → W.heap[D]? = some (.deferred (some [])) → Q .normal { a with defers := { target := .collected D, args := #[] } :: a.defers } W) :
    (Code.rangeFunc g ps assign body).wpIn F n P Q a w := by
  refine wpIn_rangeFunc fun fn hfn => ?_
  rw [hro]
  have hen := run_enterLoop_outer (P := P) (w := w) fn a.tmps ps assign body
  obtain ⟨rd, hrd⟩ : ∃ rd : Loop, rd = { state := .ready, pending := none, fn, tmps := a.tmps, params := ps, assign, body, defers := w.heap.size } := ⟨_, rfl⟩
  rw [← hrd] at hen
  refine ⟨_, _, _, { target := .fn (.func gf) lb, args := #[.func (.yield (w.heap.size + 1)) #[] #[]] }, (w.alloc (.deferred (some []))).alloc (.loop rd), gf, #[.func (.yield (w.heap.size + 1)) #[] #[]] ++ lb, (w.alloc (.deferred (some []))).alloc (.loop rd), hen, ?_, ?_, ?_, fun _ => h1, ?_⟩
  · simp only [resolve, hg]; simp [go_sem]
  · intro f' hf'; simp [Target.leads] at hf'; subst hf'; exact hFg
  · simp [invoke, go_sem, eg]
  have hL : ((w.alloc (.deferred (some []))).alloc (.loop rd)).heap[w.heap.size + 1]? = some (.loop rd) := by
    have := World.alloc_heap_new (w.alloc (.deferred (some []))) (.loop rd); rwa [World.size_alloc] at this
  have hD : ((w.alloc (.deferred (some []))).alloc (.loop rd)).heap[w.heap.size]? = some (.deferred (some [])) := (Below.heap_alloc _ _ _ (by simp)).trans (World.alloc_heap_new w _)
  refine (hit (w.heap.size + 1) (.loop rd) (fun pre W => I pre W ∧ W.heap[w.heap.size + 1]? = some (.loop rd) ∧ W.heap[w.heap.size]? = some (.deferred (some []))) ?_ ?_ ⟨hI0 _, hL, hD⟩).mono ?_
  · rintro pre W W' ⟨a1, a2, a3⟩ hx
    exact ⟨hIX _ _ _ a1 hx, (hX _ _ hx).same _ _ (by omega) a2 rfl, (hX _ _ hx).same _ _ (Nat.le_refl _) a3 rfl⟩
  · rintro pre x W ⟨a1, a2, a3⟩ hlN
    have hy := run_yield (P := P) (args := encs x) a2 (by rw [hrd]; exact hps x)
    have hb := run_beginRound (P := P) a2 (by rw [hrd])
    have hlt : w.heap.size + 1 < W.heap.size := (Array.getElem?_eq_some_iff.1 a2).1
    have ef : rd.fn = fn := by rw [hrd]
    have et : rd.tmps = a.tmps := by rw [hrd]
    have ep : rd.params = ps := by rw [hrd]
    have ea : rd.assign = assign := by rw [hrd]
    have eb : rd.body = body := by rw [hrd]
    have es : rd.state = .ready := by rw [hrd]
    have eq : rd.pending = none := by rw [hrd]
    rw [ef, et, ep, ea, eb] at hy
    refine ⟨fn, _, assign, body, hy, roundIn_of_wpIn hfn (hassign _ x W _ ⟨_, hb, ?_⟩)⟩
    obtain ⟨W2, hW2⟩ : ∃ W2, W.putObj (w.heap.size + 1) (.loop { rd with state := .busy }) = W2 := ⟨_, rfl⟩
    have b2 : W2.heap[w.heap.size + 1]? = some (.loop { rd with state := .busy }) := by rw [← hW2]; exact World.putObj_heap_same hlt
    have b3 : W2.heap[w.heap.size]? = some (.deferred (some [])) := by rw [← hW2]; exact (World.putObj_heap_other (by omega)).trans a3
    have b1 : I pre W2 := by rw [← hW2]; exact hIp _ _ _ _ _ a1 (by omega) a2 rfl
    have bk : Kp W W2 := by rw [← hW2]; exact hKb _ _ _ _ (by omega) a2 rfl
    rw [hW2]
    refine wpIn_mono (hbody _ pre x W2 b1 hlN) ?_
    rintro e a3' W3 ⟨rfl, hk3, hkp3, hi3⟩
    have c2 := hk3.same _ _ (by omega) b2 rfl
    have c3 := hk3.same _ _ (Nat.le_refl _) b3 rfl
    have he := run_endRound (P := P) none c2
    refine ⟨_, _, he, rfl, ⟨hIp _ _ _ _ _ hi3 (by omega) c2 rfl, ?_, (World.putObj_heap_other (by omega)).trans c3⟩, hKt (hKt bk hkp3) (hKb _ _ _ _ (by omega) c2 rfl)⟩
    rw [World.putObj_heap_same (Array.getElem?_eq_some_iff.1 c2).1]
    simp only [Option.isNone_none, if_true]
    congr 2
    cases rd
    simp_all
  · rintro e W2 ⟨⟨v, rfl⟩, xs, hS, a1, a2, a3⟩
    have he := run_endLoop (P := P) a2 (by rw [hrd]; simp)
    have eq : rd.pending = none := by rw [hrd]
    rw [eq] at he
    exact ⟨none, _, he, hdone _ xs _ (Nat.le_refl _) hS (hIp _ _ _ _ _ a1 (by omega) a2 rfl) ((World.putObj_heap_other (by omega)).trans a3)⟩
end
end Go.Proofs.YtobegepebochkaaGreatDoor
