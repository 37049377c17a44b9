import Derived.Test.YtbbocbdoiealoaaGreatDoorRH
set_option linter.unusedVariables false
set_option linter.unusedSimpArgs false
namespace Go.Proofs.YtbbocbdoiealoaaGreatDoor
open Go.RowKit
set_option maxRecDepth 100000 in
set_option maxHeartbeats 4000000 in
theorem read_0f {w : World} (rv0 : Int) (rw0 rm0 : Bs) (re0 rq0 : Bool) (hR : Rok ⟨rv0, rw0, rm0, re0, rq0⟩) (hq : rq0 = false) (a : Option Addr) (cp : Nat) (hE : Er w) :
    Calls Tryz.prog 108 #[rv ⟨rv0, rw0, rm0, re0, rq0⟩, .slice a 0 cp] w fun e w' => RdP ⟨rv0, rw0, rm0, re0, rq0⟩ [] w e w' := by
  subst hq
  have hrd : readS ⟨rv0, rw0, rm0, re0, false⟩ [] = rdV ⟨rv0, rw0, rm0, re0, false⟩ false [] := by
    have : qt ⟨rv0, rw0, rm0, re0, false⟩ [] = false := by simp [qt]
    simp [readS, rdV, this]
  obtain ⟨hM3, hr3, hrB, hgw3⟩ := rd0 w rv0 rw0 rm0 re0 false false
  have d0 : decide ((rw0.length : Int) ≤ -1) = false := decide_eq_false (by omega)
  have hRok := hR.le
  have hT : ∀ W, Calls Tryz.prog 148 #[rv ⟨rv0, rw0, rm0, re0, false⟩, .int .i64 0] W fun e w' => e = .returned (.bool (takes ⟨rv0, rw0, rm0, re0, false⟩ 0)) ∧ W.grownBy w' none := fun W => takes_31 ⟨rv0, rw0, rm0, re0, false⟩ 0 (by omega) hRok.1 hRok.2 W
  obtain ⟨tk, htk⟩ : ∃ tk, takes ⟨rv0, rw0, rm0, re0, false⟩ 0 = tk := ⟨_, rfl⟩
  simp only [htk] at hT
  cases tk with
  | false =>
    have HR : Hid (readS ⟨rv0, rw0, rm0, re0, false⟩ [] = .inr badLine) := by
      show _ = _
      rw [hrd]; simp [rdV, htk]
    clear hrd htk hrB hM3 hr3
    go_enter Tryz.func108, Tryz.ntmps108
    go_wp2_with (first | (go_at_call 148; with_reducible refine (hT _).mono ?_; rintro e w4 ⟨rfl, hg4⟩) | (go_at_call 146; with_reducible refine (giveUp_27 _ _).mono ?_; rintro e w5 ⟨rfl, rfl⟩))
    exact ⟨rfl, .inr ⟨_, HR.out, rfl⟩, gb_trans hgw3 hg4⟩
  | true =>
    have HR : Hid (readS ⟨rv0, rw0, rm0, re0, false⟩ [] = .inl (cmd0 rv0 false)) := by
      show _ = _
      rw [hrd]; simp only [rdV, List.length_nil, htk, if_true]; rfl
    clear hrd
    have h34 := fun W => flags_nil rv0 none 0 W
    go_enter Tryz.func108, Tryz.ntmps108
    go_wp2_with (first | (go_at_call 148; with_reducible refine (hT _).mono ?_; rintro e w4 ⟨rfl, hg4⟩; (have h4 := hM3.kept hg4); (have hr4 := hr3.kept hg4 (by simp)); (have hrB4 := hrB.kept hg4 (by simp)); (have hgw4 := gb_trans hgw3 hg4); clear hM3 hr3 hg4 hgw3 hrB hT))
    go_loopw [44] (fun x wr => x = .int .i64 0 ∧ wr = w4) (fun _ _ => 0)
    case atStart => exact ⟨rfl, rfl⟩
    case round =>
      obtain ⟨rfl, rfl⟩ := hrel
      have y0 : wr.cell? ⟨w.heap.size, 0, none⟩ = some (.int .i64 rv0) := hr4.cell 0
      have y9 : wr.cell? ⟨w.heap.size + 1 + 1, 9, none⟩ = some (.slice none 0 0) := h4.box.cell 9
      go_wp2_with (go_at_call 39; go_must ((with_reducible refine (h34 _).mono ?_); rintro e w7 ⟨rfl, hg7⟩; (have m0 : w7.cell? ⟨w.heap.size + 1 + 1, 0, none⟩ = some (.int .i64 rv0) := (h4.kept hg7).box.cell 0); (have m1 : w7.cell? ⟨w.heap.size + 1 + 1, 1, none⟩ = some (.slice none 0 0) := (h4.kept hg7).box.cell 1); (have m2 : w7.cell? ⟨w.heap.size + 1 + 1, 2, none⟩ = some (.int .u64 0) := (h4.kept hg7).box.cell 2); (have m3 : w7.cell? ⟨w.heap.size + 1 + 1, 3, none⟩ = some (.int .i64 0) := (h4.kept hg7).box.cell 3); (have m4 : w7.cell? ⟨w.heap.size + 1 + 1, 4, none⟩ = some (.int .u64 0) := (h4.kept hg7).box.cell 4); (have m5 : w7.cell? ⟨w.heap.size + 1 + 1, 5, none⟩ = some (.int .u64 0) := (h4.kept hg7).box.cell 5); (have m6 : w7.cell? ⟨w.heap.size + 1 + 1, 6, none⟩ = some (.slice none 0 0) := (h4.kept hg7).box.cell 6); (have m7 : w7.cell? ⟨w.heap.size + 1 + 1, 7, none⟩ = some (.bool false) := (h4.kept hg7).box.cell 7); (have m8 : w7.cell? ⟨w.heap.size + 1 + 1, 8, none⟩ = some (.bool false) := (h4.kept hg7).box.cell 8); (have m9 : w7.cell? ⟨w.heap.size + 1 + 1, 9, none⟩ = some (.slice none 0 0) := (h4.kept hg7).box.cell 9); (have m10 : w7.cell? ⟨w.heap.size + 1 + 1, 10, none⟩ = some (.string ⟨#[]⟩) := (h4.kept hg7).box.cell 10); (have r0 : w7.cell? ⟨w.heap.size + 1, 0, none⟩ = some (.int .i64 0) := (hrB4.kept hg7 (by simp)).cell 0); (have r1 : w7.cell? ⟨w.heap.size + 1, 1, none⟩ = some (.slice none 0 0) := (hrB4.kept hg7 (by simp)).cell 1); (have r2 : w7.cell? ⟨w.heap.size + 1, 2, none⟩ = some (.int .u64 0) := (hrB4.kept hg7 (by simp)).cell 2); (have r3 : w7.cell? ⟨w.heap.size + 1, 3, none⟩ = some (.int .i64 0) := (hrB4.kept hg7 (by simp)).cell 3); (have r4 : w7.cell? ⟨w.heap.size + 1, 4, none⟩ = some (.int .u64 0) := (hrB4.kept hg7 (by simp)).cell 4); (have r5 : w7.cell? ⟨w.heap.size + 1, 5, none⟩ = some (.int .u64 0) := (hrB4.kept hg7 (by simp)).cell 5); (have r6 : w7.cell? ⟨w.heap.size + 1, 6, none⟩ = some (.slice none 0 0) := (hrB4.kept hg7 (by simp)).cell 6); (have r7 : w7.cell? ⟨w.heap.size + 1, 7, none⟩ = some (.bool false) := (hrB4.kept hg7 (by simp)).cell 7); (have r8 : w7.cell? ⟨w.heap.size + 1, 8, none⟩ = some (.bool false) := (hrB4.kept hg7 (by simp)).cell 8); (have r9 : w7.cell? ⟨w.heap.size + 1, 9, none⟩ = some (.slice none 0 0) := (hrB4.kept hg7 (by simp)).cell 9); (have r10 : w7.cell? ⟨w.heap.size + 1, 10, none⟩ = some (.string ⟨#[]⟩) := (hrB4.kept hg7 (by simp)).cell 10); (have z0 := (hrB4.kept hg7 (by simp)).fz 0); (have z1 := (hrB4.kept hg7 (by simp)).fz 1); (have z2 := (hrB4.kept hg7 (by simp)).fz 2); (have z3 := (hrB4.kept hg7 (by simp)).fz 3); (have z4 := (hrB4.kept hg7 (by simp)).fz 4); (have z5 := (hrB4.kept hg7 (by simp)).fz 5); (have z6 := (hrB4.kept hg7 (by simp)).fz 6); (have z7 := (hrB4.kept hg7 (by simp)).fz 7); (have z8 := (hrB4.kept hg7 (by simp)).fz 8); (have z9 := (hrB4.kept hg7 (by simp)).fz 9); (have z10 := (hrB4.kept hg7 (by simp)).fz 10)))
      obtain ⟨hbx, hgx⟩ := box11 (v0 := .int .i64 rv0) (v1 := .slice none 0 0) (v2 := .int .u64 0) (v3 := .int .i64 0) (v4 := .int .u64 0) (v5 := .int .u64 0) (v6 := .slice none 0 0) (v7 := .bool false) (v8 := .bool false) (v9 := .slice none 0 0) (v10 := .string ⟨#[]⟩) (hrB4.kept hg7 (by simp))
      refine ⟨rfl, _, load31 hbx _ rfl, .inl ⟨cmd0 rv0 false, .slice none 0 0, .slice none 0 0, HR.out, rfl, World.ownsRow_nil _ _ _ _, World.ownsRow_nil _ _ _ _⟩, gb_mine (gb_trans hgw4 hg7) hgx (by omega)⟩
set_option maxRecDepth 100000 in
set_option maxHeartbeats 4000000 in
theorem read_0t {w : World} (rv0 : Int) (rw0 rm0 : Bs) (re0 rq0 : Bool) (hR : Rok ⟨rv0, rw0, rm0, re0, rq0⟩) (hq : rq0 = true) (a : Option Addr) (cp : Nat) (hE : Er w) :
    Calls Tryz.prog 108 #[rv ⟨rv0, rw0, rm0, re0, rq0⟩, .slice a 0 cp] w fun e w' => RdP ⟨rv0, rw0, rm0, re0, rq0⟩ [] w e w' := by
  subst hq
  have hrd : readS ⟨rv0, rw0, rm0, re0, true⟩ [] = rdV ⟨rv0, rw0, rm0, re0, true⟩ false [] := by
    have : qt ⟨rv0, rw0, rm0, re0, true⟩ [] = false := by simp [qt]
    simp [readS, rdV, this]
  obtain ⟨hM3, hr3, hrB, hgw3⟩ := rd0 w rv0 rw0 rm0 re0 true false
  have d0 : decide ((rw0.length : Int) ≤ -1) = false := decide_eq_false (by omega)
  have hRok := hR.le
  have hT : ∀ W, Calls Tryz.prog 148 #[rv ⟨rv0, rw0, rm0, re0, true⟩, .int .i64 0] W fun e w' => e = .returned (.bool (takes ⟨rv0, rw0, rm0, re0, true⟩ 0)) ∧ W.grownBy w' none := fun W => takes_31 ⟨rv0, rw0, rm0, re0, true⟩ 0 (by omega) hRok.1 hRok.2 W
  obtain ⟨tk, htk⟩ : ∃ tk, takes ⟨rv0, rw0, rm0, re0, true⟩ 0 = tk := ⟨_, rfl⟩
  simp only [htk] at hT
  cases tk with
  | false =>
    have HR : Hid (readS ⟨rv0, rw0, rm0, re0, true⟩ [] = .inr badLine) := by
      show _ = _
      rw [hrd]; simp [rdV, htk]
    clear hrd htk hrB hM3 hr3
    go_enter Tryz.func108, Tryz.ntmps108
    go_wp2_with (first | (go_at_call 148; with_reducible refine (hT _).mono ?_; rintro e w4 ⟨rfl, hg4⟩) | (go_at_call 146; with_reducible refine (giveUp_27 _ _).mono ?_; rintro e w5 ⟨rfl, rfl⟩))
    exact ⟨rfl, .inr ⟨_, HR.out, rfl⟩, gb_trans hgw3 hg4⟩
  | true =>
    have HR : Hid (readS ⟨rv0, rw0, rm0, re0, true⟩ [] = .inl (cmd0 rv0 false)) := by
      show _ = _
      rw [hrd]; simp only [rdV, List.length_nil, htk, if_true]; rfl
    clear hrd
    have h34 := fun W => flags_nil rv0 none 0 W
    go_enter Tryz.func108, Tryz.ntmps108
    go_wp2_with (first | (go_at_call 148; with_reducible refine (hT _).mono ?_; rintro e w4 ⟨rfl, hg4⟩; (have h4 := hM3.kept hg4); (have hr4 := hr3.kept hg4 (by simp)); (have hrB4 := hrB.kept hg4 (by simp)); (have hgw4 := gb_trans hgw3 hg4); clear hM3 hr3 hg4 hgw3 hrB hT))
    go_loopw [44] (fun x wr => x = .int .i64 0 ∧ wr = w4) (fun _ _ => 0)
    case atStart => exact ⟨rfl, rfl⟩
    case round =>
      obtain ⟨rfl, rfl⟩ := hrel
      have y0 : wr.cell? ⟨w.heap.size, 0, none⟩ = some (.int .i64 rv0) := hr4.cell 0
      have y9 : wr.cell? ⟨w.heap.size + 1 + 1, 9, none⟩ = some (.slice none 0 0) := h4.box.cell 9
      go_wp2_with (go_at_call 39; go_must ((with_reducible refine (h34 _).mono ?_); rintro e w7 ⟨rfl, hg7⟩; (have m0 : w7.cell? ⟨w.heap.size + 1 + 1, 0, none⟩ = some (.int .i64 rv0) := (h4.kept hg7).box.cell 0); (have m1 : w7.cell? ⟨w.heap.size + 1 + 1, 1, none⟩ = some (.slice none 0 0) := (h4.kept hg7).box.cell 1); (have m2 : w7.cell? ⟨w.heap.size + 1 + 1, 2, none⟩ = some (.int .u64 0) := (h4.kept hg7).box.cell 2); (have m3 : w7.cell? ⟨w.heap.size + 1 + 1, 3, none⟩ = some (.int .i64 0) := (h4.kept hg7).box.cell 3); (have m4 : w7.cell? ⟨w.heap.size + 1 + 1, 4, none⟩ = some (.int .u64 0) := (h4.kept hg7).box.cell 4); (have m5 : w7.cell? ⟨w.heap.size + 1 + 1, 5, none⟩ = some (.int .u64 0) := (h4.kept hg7).box.cell 5); (have m6 : w7.cell? ⟨w.heap.size + 1 + 1, 6, none⟩ = some (.slice none 0 0) := (h4.kept hg7).box.cell 6); (have m7 : w7.cell? ⟨w.heap.size + 1 + 1, 7, none⟩ = some (.bool false) := (h4.kept hg7).box.cell 7); (have m8 : w7.cell? ⟨w.heap.size + 1 + 1, 8, none⟩ = some (.bool false) := (h4.kept hg7).box.cell 8); (have m9 : w7.cell? ⟨w.heap.size + 1 + 1, 9, none⟩ = some (.slice none 0 0) := (h4.kept hg7).box.cell 9); (have m10 : w7.cell? ⟨w.heap.size + 1 + 1, 10, none⟩ = some (.string ⟨#[]⟩) := (h4.kept hg7).box.cell 10); (have r0 : w7.cell? ⟨w.heap.size + 1, 0, none⟩ = some (.int .i64 0) := (hrB4.kept hg7 (by simp)).cell 0); (have r1 : w7.cell? ⟨w.heap.size + 1, 1, none⟩ = some (.slice none 0 0) := (hrB4.kept hg7 (by simp)).cell 1); (have r2 : w7.cell? ⟨w.heap.size + 1, 2, none⟩ = some (.int .u64 0) := (hrB4.kept hg7 (by simp)).cell 2); (have r3 : w7.cell? ⟨w.heap.size + 1, 3, none⟩ = some (.int .i64 0) := (hrB4.kept hg7 (by simp)).cell 3); (have r4 : w7.cell? ⟨w.heap.size + 1, 4, none⟩ = some (.int .u64 0) := (hrB4.kept hg7 (by simp)).cell 4); (have r5 : w7.cell? ⟨w.heap.size + 1, 5, none⟩ = some (.int .u64 0) := (hrB4.kept hg7 (by simp)).cell 5); (have r6 : w7.cell? ⟨w.heap.size + 1, 6, none⟩ = some (.slice none 0 0) := (hrB4.kept hg7 (by simp)).cell 6); (have r7 : w7.cell? ⟨w.heap.size + 1, 7, none⟩ = some (.bool false) := (hrB4.kept hg7 (by simp)).cell 7); (have r8 : w7.cell? ⟨w.heap.size + 1, 8, none⟩ = some (.bool false) := (hrB4.kept hg7 (by simp)).cell 8); (have r9 : w7.cell? ⟨w.heap.size + 1, 9, none⟩ = some (.slice none 0 0) := (hrB4.kept hg7 (by simp)).cell 9); (have r10 : w7.cell? ⟨w.heap.size + 1, 10, none⟩ = some (.string ⟨#[]⟩) := (hrB4.kept hg7 (by simp)).cell 10); (have z0 := (hrB4.kept hg7 (by simp)).fz 0); (have z1 := (hrB4.kept hg7 (by simp)).fz 1); (have z2 := (hrB4.kept hg7 (by simp)).fz 2); (have z3 := (hrB4.kept hg7 (by simp)).fz 3); (have z4 := (hrB4.kept hg7 (by simp)).fz 4); (have z5 := (hrB4.kept hg7 (by simp)).fz 5); (have z6 := (hrB4.kept hg7 (by simp)).fz 6); (have z7 := (hrB4.kept hg7 (by simp)).fz 7); (have z8 := (hrB4.kept hg7 (by simp)).fz 8); (have z9 := (hrB4.kept hg7 (by simp)).fz 9); (have z10 := (hrB4.kept hg7 (by simp)).fz 10)))
      obtain ⟨hbx, hgx⟩ := box11 (v0 := .int .i64 rv0) (v1 := .slice none 0 0) (v2 := .int .u64 0) (v3 := .int .i64 0) (v4 := .int .u64 0) (v5 := .int .u64 0) (v6 := .slice none 0 0) (v7 := .bool false) (v8 := .bool false) (v9 := .slice none 0 0) (v10 := .string ⟨#[]⟩) (hrB4.kept hg7 (by simp))
      refine ⟨rfl, _, load31 hbx _ rfl, .inl ⟨cmd0 rv0 false, .slice none 0 0, .slice none 0 0, HR.out, rfl, World.ownsRow_nil _ _ _ _, World.ownsRow_nil _ _ _ _⟩, gb_mine (gb_trans hgw4 hg7) hgx (by omega)⟩
theorem read_18 {w : World} (r : Rw) (hR : Rok r) (v : Value) (ws : List Bs) (hws : ∀ x ∈ ws, x ≠ [] ∧ x.length ≤ 1099511627776) (hn : ws.length ≤ 1000000000) (hW : Ws w v ws) (hE : Er w) :
    Calls Tryz.prog 108 #[rv r, v] w fun e w' => RdP r ws w e w' := by
  obtain ⟨rv0, rw0, rm0, re0, rq0⟩ := r
  rcases hW with ⟨rfl, a, c, rfl⟩ | ⟨g, o, c, rfl, h1, h2, h3⟩
  · cases rq0 with
    | false => exact read_0f rv0 rw0 rm0 re0 false hR rfl a c hE
    | true => exact read_0t rv0 rw0 rm0 re0 true hR rfl a c hE
  cases rq0 with
  | false => exact read_1 rv0 rw0 rm0 re0 false hR ws hws ws.length rfl hn g o c h2 h1 h3 hE rfl
  | true =>
    rcases Nat.eq_zero_or_pos ws.length with h0 | h0
    · have h4 := List.length_eq_zero_iff.1 h0
      subst h4
      exact read_0t rv0 rw0 rm0 re0 true hR rfl _ c hE
    · obtain ⟨l, hl⟩ : ∃ l, ws.length = l + 1 := ⟨ws.length - 1, by omega⟩
      rcases Nat.lt_or_ge l rw0.length with h5 | h5
      · exact read_2 rv0 rw0 rm0 re0 true hR ws hws ws.length rfl hn g o c h2 h1 h3 hE rfl l hl h5
      · by_cases h6 : ws.getLast? = some noreply
        · rw [hl]
          exact read_4 rv0 rw0 rm0 re0 true hR ws hws l hl (by omega) g o c h2 (by omega) h3 hE rfl h5 h6
        · exact read_3 rv0 rw0 rm0 re0 true hR ws hws ws.length rfl hn g o c h2 h1 h3 hE rfl l hl h5 h6
theorem idx_of (s : Bs) (c : UInt8) : Lib.indexByte s c = match s.idxOf? c with | some i => (i : Int) | none => -1 := by
  induction s with
  | nil => rfl
  | cons b l ih =>
    simp only [Lib.indexByte, List.idxOf?_cons]
    by_cases hb : b = c
    · subst hb; simp
    · simp only [beq_iff_eq, hb, if_false, ih]
      cases l.idxOf? c with
      | none => simp
      | some i => simp
set_option maxRecDepth 100000 in
set_option maxHeartbeats 4000000 in
theorem pass_17 {w : World} (r : Rw) (hR : Rok r) (v : Value) (ws : List Bs) (hws : ∀ x ∈ ws, x ≠ [] ∧ x.length ≤ 1099511627776) (hn : ws.length ≤ 1000000000) (hW : Ws w v ws) (hE : Er w) :
    Calls Tryz.prog 107 #[rv r, v] w fun e w' => e = .returned (.int .i64 (passS r ws)) ∧ w.grownBy w' none := by
  have hgA : w.grownBy (w.alloc (.cells #[.int .i64 r.verb, sv r.wants, sv r.may, .bool r.endless, .bool r.quiet] 151)) none := gb_alloc (gb_refl _ _) _
  have hEA := hE.kept hgA
  obtain ⟨nv, hnv⟩ : ∃ nv, ws.length = nv := ⟨_, rfl⟩
  have hsh : ∃ a c, v = .slice a nv c := by
    rcases hW with ⟨rfl, a, c, rfl⟩ | ⟨g, o, c, rfl, _⟩
    · subst hnv; exact ⟨a, c, rfl⟩
    · subst hnv; exact ⟨_, c, rfl⟩
  obtain ⟨a, c, rfl⟩ := hsh
  cases hi : r.wants.idxOf? 78 with
  | none =>
    have hc : ∀ W, Calls Tryz.prog 135 #[sv r.wants, .int .u8 78] W fun e w' => e = .returned (.int .i64 (-1)) ∧ w' = W := fun W => by
      have := indexB_29 ⟨r.wants.toArray⟩ 78 W
      rw [show Lib.indexByte (ByteArray.mk r.wants.toArray).data.toList (78 : Int).toNat.toUInt8 = -1 from by show Lib.indexByte r.wants 78 = -1; rw [idx_of, hi]] at this
      exact this
    have hp : passS r ws = -1 := by simp [passS, hi]
    rw [hp]
    clear hW hi
    go_enter Tryz.func107, Tryz.ntmps107
    go_wp2_with (go_at_call 135; with_reducible refine (hc _).mono ?_; rintro e w' ⟨rfl, rfl⟩)
    go_ret
    exact ⟨rfl, hgA⟩
  | some i =>
    have hc : ∀ W, Calls Tryz.prog 135 #[sv r.wants, .int .u8 78] W fun e w' => e = .returned (.int .i64 i) ∧ w' = W := fun W => by
      have := indexB_29 ⟨r.wants.toArray⟩ 78 W
      rw [show Lib.indexByte (ByteArray.mk r.wants.toArray).data.toList (78 : Int).toNat.toUInt8 = (i : Int) from by show Lib.indexByte r.wants 78 = (i : Int); rw [idx_of, hi]] at this
      exact this
    have hi0 : decide ((i : Int) < 0) = false := decide_eq_false (by omega)
    rcases Nat.lt_or_ge i nv with hlt | hge
    · obtain ⟨x, hx⟩ : ∃ x, ws[i]? = some x := ⟨_, List.getElem?_eq_getElem (by omega)⟩
      have hd : decide ((nv : Int) ≤ (i : Int)) = false := decide_eq_false (by omega)
      have hd2 : ((i : Int) < (nv : Int)) := by omega
      obtain ⟨hx0, hxl⟩ := hws x (List.mem_of_getElem? hx)
      have hcl : ∃ g o, a = some ⟨g, o, none⟩ ∧ w.cell? ⟨g, o + i, none⟩ = some (sv x) := by
        rcases hW with ⟨rfl, _⟩ | ⟨g, o, c', h1, _, _, h3⟩
        · simp at hx
        · injection h1 with h1 _ _
          exact ⟨g, o, h1, h3 i x hx⟩
      obtain ⟨g, o, rfl, hcx⟩ := hcl
      have hcA := gb_cellN hgA hcx
      have h30 := fun W (hW : Er W) => number_30 x hxl 2147483647 2147483647 rfl (by omega) W hW
      cases hnb : nb 2147483647 x with
      | none =>
        have hp : passS r ws = -1 := by simp [passS, hi, hx, hnb]
        simp only [hnb] at h30
        rw [hp]
        clear hW hi hx hnb hws hp
        go_enter Tryz.func107, Tryz.ntmps107
        go_wp2_with (first | (go_at_call 135; with_reducible refine (hc _).mono ?_; rintro e w' ⟨rfl, rfl⟩) | (go_at_call 138; with_reducible refine (h30 _ hEA).mono ?_; rintro e w' ⟨rfl, hg⟩))
        go_ret
        exact ⟨rfl, gb_trans hgA hg⟩
      | some m =>
        have hm : m ≤ 2147483647 := by
          unfold nb at hnb
          split at hnb
          · split at hnb
            · injection hnb with hnb; omega
            · cases hnb
          · cases hnb
        have hp : passS r ws = (m : Int) := by simp [passS, hi, hx, hnb]
        simp only [hnb] at h30
        rw [hp]
        clear hp
        clear hW hi hx hnb hws
        go_enter Tryz.func107, Tryz.ntmps107
        go_wp2_with (first | (go_at_call 135; with_reducible refine (hc _).mono ?_; rintro e w' ⟨rfl, rfl⟩) | (go_at_call 138; with_reducible refine (h30 _ hEA).mono ?_; rintro e w' ⟨rfl, hg⟩))
        go_ret
        exact ⟨rfl, gb_trans hgA hg⟩
    · have hp : passS r ws = -1 := by
        have : ws[i]? = none := List.getElem?_eq_none (by omega)
        simp [passS, hi, this]
      have hd : decide ((nv : Int) ≤ (i : Int)) = true := decide_eq_true (by omega)
      rw [hp]
      clear hW hi
      go_enter Tryz.func107, Tryz.ntmps107
      go_wp2_with (go_at_call 135; with_reducible refine (hc _).mono ?_; rintro e w' ⟨rfl, rfl⟩)
      go_ret
      exact ⟨rfl, hgA⟩
end Go.Proofs.YtbbocbdoiealoaaGreatDoor
