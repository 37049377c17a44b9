/-
  Servers and points of a ring or of none; equal lists are the same.
-/
import Derived.Test.YtphhofbdekbggaaTf
namespace Go.Proofs.Ytphhofbdekbggaa
open Go.RowKit
set_option linter.unusedVariables false
set_option linter.unusedSimpArgs false

theorem fields49 : (Try.prog.fieldsOf 49).toList.map (fun f => (decide (f.name ≠ "_"), f.type, f.offset)) = [(true, 47, 0), (true, 3, 1), (true, 3, 2)] := by kernel_rfl
theorem fields26 : (Try.prog.fieldsOf 26).toList.map (fun f => (decide (f.name ≠ "_"), f.type, f.offset)) = [(true, 9, 0), (true, 3, 1)] := by kernel_rfl
theorem Try.under9 : Try.prog.underlying 9 = some .string := by kernel_rfl
set_option maxRecDepth 100000 in
theorem neq_sv (s : ByteArray) (z : Int) (w : World) : (binOp .neq 26 (.agg #[.string s, .int .i64 z]) (.agg #[.string s, .int .i64 z])).run Try.prog w = .ok (.bool false) w := by
  rw [run_neq_struct]
  have h := run_equalIn_agg (P := Try.prog) w 9999 26 #[.string s, .int .i64 z] #[.string s, .int .i64 z] (by kernel_rfl) (by kernel_rfl)
  have hf := fields26
  obtain ⟨f0, t1, e1, e2, e3⟩ := List.map_eq_cons_iff.1 hf
  obtain ⟨f1, t2, e4, e5, e6⟩ := List.map_eq_cons_iff.1 e3
  have e7 := List.map_eq_nil_iff.1 e6
  subst e7
  subst e4
  rw [e1] at h
  simp only [Prod.mk.injEq, decide_eq_true_eq] at e2 e5
  have p0 : (Go.part 9 #[.string s, .int .i64 z] 0).run Try.prog w = .ok (.string s) w := by kernel_rfl
  have p1 : (Go.part 3 #[.string s, .int .i64 z] 1).run Try.prog w = .ok (.int .i64 z) w := by kernel_rfl
  have q0 : (Op.equalIn 9999 9 (.string s) (.string s)).run Try.prog w = .ok true w := by rw [run_equalIn_string (P := Try.prog) w 9998 9 s s Try.under9]; simp
  have q1 : (Op.equalIn 9999 3 (.int .i64 z) (.int .i64 z)).run Try.prog w = .ok true w := by rw [run_equalIn_int (P := Try.prog) w 9998 3 .i64 .i64 z z Try.underlying3]; simp
  rw [show (Op.equalIn 10000 26 (.agg #[.string s, .int .i64 z]) (.agg #[.string s, .int .i64 z])).run Try.prog w = .ok true w by
    show (Op.equalIn (9999 + 1) 26 _ _).run Try.prog w = _
    rw [h]
    simp [Op.eqFields, e2.1, e5.1, e2.2.1, e2.2.2, e5.2.1, e5.2.2, p0, p1, q0, q1, Result.andThen]]
  rfl
set_option maxRecDepth 100000 in
theorem neq_pt (x y z : Int) (w : World) : (binOp .neq 49 (.agg #[.int .u32 x, .int .i64 y, .int .i64 z]) (.agg #[.int .u32 x, .int .i64 y, .int .i64 z])).run Try.prog w = .ok (.bool false) w := by
  rw [run_neq_struct]
  have h := run_equalIn_agg (P := Try.prog) w 9999 49 #[.int .u32 x, .int .i64 y, .int .i64 z] #[.int .u32 x, .int .i64 y, .int .i64 z] (by kernel_rfl) (by kernel_rfl)
  have hf := fields49
  obtain ⟨f0, t1, e1, e2, e3⟩ := List.map_eq_cons_iff.1 hf
  obtain ⟨f1, t2, e4, e5, e6⟩ := List.map_eq_cons_iff.1 e3
  obtain ⟨f2, t3, e8, e9, e10⟩ := List.map_eq_cons_iff.1 e6
  have e7 := List.map_eq_nil_iff.1 e10
  subst e7
  subst e8
  subst e4
  rw [e1] at h
  simp only [Prod.mk.injEq, decide_eq_true_eq] at e2 e5 e9
  have p0 : (Go.part 47 #[.int .u32 x, .int .i64 y, .int .i64 z] 0).run Try.prog w = .ok (.int .u32 x) w := by kernel_rfl
  have p1 : (Go.part 3 #[.int .u32 x, .int .i64 y, .int .i64 z] 1).run Try.prog w = .ok (.int .i64 y) w := by kernel_rfl
  have p2 : (Go.part 3 #[.int .u32 x, .int .i64 y, .int .i64 z] 2).run Try.prog w = .ok (.int .i64 z) w := by kernel_rfl
  have q0 : (Op.equalIn 9999 47 (.int .u32 x) (.int .u32 x)).run Try.prog w = .ok true w := by rw [run_equalIn_int (P := Try.prog) w 9998 47 .u32 .u32 x x Try.underlying47]; simp
  have q1 : (Op.equalIn 9999 3 (.int .i64 y) (.int .i64 y)).run Try.prog w = .ok true w := by rw [run_equalIn_int (P := Try.prog) w 9998 3 .i64 .i64 y y Try.underlying3]; simp
  have q2 : (Op.equalIn 9999 3 (.int .i64 z) (.int .i64 z)).run Try.prog w = .ok true w := by rw [run_equalIn_int (P := Try.prog) w 9998 3 .i64 .i64 z z Try.underlying3]; simp
  rw [show (Op.equalIn 10000 49 (.agg #[.int .u32 x, .int .i64 y, .int .i64 z]) (.agg #[.int .u32 x, .int .i64 y, .int .i64 z])).run Try.prog w = .ok true w by
    show (Op.equalIn (9999 + 1) 49 _ _).run Try.prog w = _
    rw [h]
    simp [Op.eqFields, e2.1, e5.1, e9.1, e2.2.1, e2.2.2, e5.2.1, e5.2.2, e9.2.1, e9.2.2, p0, p1, p2, q0, q1, q2, Result.andThen]]
  rfl
set_option maxRecDepth 100000 in
set_option maxHeartbeats 2000000 in
theorem servers_rz {w : World} {v : Value} {L : List Sv} {ps : List Pt} (h : RZ w v L ps) :
    Calls Try.prog 11 #[v] w fun e w' => (∃ a' g' c', e = .returned (.slice a' L.length c') ∧ (0 < L.length → a' = some ⟨g', 0, none⟩) ∧ SvAt w' g' L) ∧ w.grownBy w' none := by
  rcases h with h | ⟨rfl, rfl, rfl⟩
  · exact servers_11 h
  · have hf1 : w.grownBy (w.alloc (.cells #[.slice none 0 0, .slice none 0 0] 32)) none := gb_alloc (gb_refl _ _) _
    have h32 := fun W => clone_32_no (w := W) (a := none) (c := 0)
    go_enter Try.func11, Try.ntmps11
    go_wp2_with (go_at_call 32; go_must (refine (h32 _).mono ?_); rintro y w2 ⟨⟨a2, c2, rfl⟩, hg2⟩)
    go_ret
    exact ⟨⟨_, 0, _, rfl, fun h => absurd h (by simp), fun i hi => absurd hi (by simp)⟩, gb_trans hf1 hg2⟩
set_option maxRecDepth 100000 in
set_option maxHeartbeats 2000000 in
theorem points_rz {w : World} {v : Value} {L : List Sv} {ps : List Pt} (h : RZ w v L ps) :
    Calls Try.prog 14 #[v] w fun e w' => (∃ a' g' c', e = .returned (.slice a' ps.length c') ∧ (0 < ps.length → a' = some ⟨g', 0, none⟩) ∧ PtAt w' g' ps) ∧ w.grownBy w' none := by
  rcases h with h | ⟨rfl, rfl, rfl⟩
  · exact points_rg h
  · have hf1 : w.grownBy (w.alloc (.cells #[.slice none 0 0, .slice none 0 0] 32)) none := gb_alloc (gb_refl _ _) _
    have h37 : ∀ W, Calls Try.prog 37 #[.slice none 0 0] W fun e w' => e = .returned (.slice none 0 0) ∧ W.grownBy w' none := fun W => by
      have hq : ∀ (W : World), Sem.run Try.prog (binOp .eql 30 (.slice none 0 0) (.slice none 0 0)) W = .ok (.bool true) W := fun W => by first | rfl | kernel_rfl | simp [binOp, go_sem]
      go_enter Try.func37, Try.ntmps37
      go_wp2_with fail
      go_ret
      exact ⟨rfl, gb_refl _ _⟩
    go_enter Try.func14, Try.ntmps14
    go_wp2_with (go_at_call 37; go_must (refine (h37 _).mono ?_); rintro y w2 ⟨rfl, hg2⟩)
    go_ret
    exact ⟨⟨_, 0, _, rfl, fun h => absurd h (by simp), fun i hi => absurd hi (by simp)⟩, gb_trans hf1 hg2⟩
set_option maxHeartbeats 2000000 in
set_option maxRecDepth 100000 in
/-- Two lists of the same servers. -/
theorem sameServers_15 {w : World} {a b : Option Addr} {g k n c d : Nat} {L : List Sv} (hn : L.length = n) (hn2 : n ≤ 1000) (ha : 0 < n → a = some ⟨g, 0, none⟩) (hb : 0 < n → b = some ⟨k, 0, none⟩) (hS : SvAt w g L) (hT : SvAt w k L) :
    Calls Try.prog 15 #[.slice a n c, .slice b n d] w fun y w' => y = .returned (.bool true) ∧ w.grownBy w' none := by
  go_enter Try.func15, Try.ntmps15
  go_wp2_with fail
  go_loopw [5] (fun x wr => ∃ (i : Nat), i ≤ n ∧ x = .int .i64 i ∧ w.grownBy wr none) (fun x _ => n - (intOf x).toNat)
  case atStart => exact ⟨0, by omega, rfl, gb_refl _ _⟩
  case round =>
    obtain ⟨i, hi, rfl, hg⟩ := hrel
    by_cases hlt : i < n
    · obtain rfl := ha (by omega)
      obtain rfl := hb (by omega)
      obtain ⟨c0, c1⟩ := hS i (by omega)
      obtain ⟨d0, d1⟩ := hT i (by omega)
      have c0 := gb_cellN hg c0
      have c1 := gb_cellN hg c1
      have d0 := gb_cellN hg d0
      have d1 := gb_cellN hg d1
      have hneq := neq_sv (sat L i).1 (sat L i).2
      generalize (sat L i).1 = s at *
      generalize (sat L i).2 = z at *
      have hk0 : wr.drew.cell? ⟨g, i * 2, none⟩ = some (.string s) ∧ wr.drew.cell? ⟨g, i * 2 + 1, none⟩ = some (.int .i64 z) ∧ wr.drew.cell? ⟨k, i * 2, none⟩ = some (.string s) ∧ wr.drew.cell? ⟨k, i * 2 + 1, none⟩ = some (.int .i64 z) := ⟨c0, c1, d0, d1⟩
      have HG : Hid (w.grownBy wr.drew none) := gb_drew hg
      clear hS hT hn
      go_wp2_with fail
      go_region_held3 (fun W => W.cell? ⟨g, i * 2, none⟩ = some (.string s) ∧ W.cell? ⟨g, i * 2 + 1, none⟩ = some (.int .i64 z) ∧ W.cell? ⟨k, i * 2, none⟩ = some (.string s) ∧ W.cell? ⟨k, i * 2 + 1, none⟩ = some (.int .i64 z)) ((first | with_reducible exact hk0 | go_keep)) (fail)
      go_wp2_with fail
      go_roundw
      case rel => exact ⟨i + 1, by omega, by go_num, HG.out⟩
      case measure => simp [intOf]; omega
    · obtain rfl : i = n := by omega
      clear hS hT
      go_wp2_with fail
      go_ret
      exact ⟨rfl, hg⟩
set_option maxHeartbeats 2000000 in
set_option maxRecDepth 100000 in
/-- Two lists of the same points. -/
theorem samePoints_16 {w : World} {a b : Option Addr} {g k n c d : Nat} {ps : List Pt} (hn : ps.length = n) (hn2 : n ≤ 1000000) (ha : 0 < n → a = some ⟨g, 0, none⟩) (hb : 0 < n → b = some ⟨k, 0, none⟩) (hS : PtAt w g ps) (hT : PtAt w k ps) :
    Calls Try.prog 16 #[.slice a n c, .slice b n d] w fun y w' => y = .returned (.bool true) ∧ w.grownBy w' none := by
  go_enter Try.func16, Try.ntmps16
  go_wp2_with fail
  go_loopw [5] (fun x wr => ∃ (i : Nat), i ≤ n ∧ x = .int .i64 i ∧ w.grownBy wr none) (fun x _ => n - (intOf x).toNat)
  case atStart => exact ⟨0, by omega, rfl, gb_refl _ _⟩
  case round =>
    obtain ⟨i, hi, rfl, hg⟩ := hrel
    by_cases hlt : i < n
    · obtain rfl := ha (by omega)
      obtain rfl := hb (by omega)
      obtain ⟨c0, c1, c2⟩ := hS i (by omega)
      obtain ⟨d0, d1, d2⟩ := hT i (by omega)
      have c0 := gb_cellN hg c0
      have c1 := gb_cellN hg c1
      have c2 := gb_cellN hg c2
      have d0 := gb_cellN hg d0
      have d1 := gb_cellN hg d1
      have d2 := gb_cellN hg d2
      have hneq := neq_pt (pat ps i).1 (pat ps i).2.1 (pat ps i).2.2
      generalize (pat ps i).1 = x at *
      generalize (pat ps i).2.1 = y at *
      generalize (pat ps i).2.2 = z at *
      have hk0 : wr.drew.cell? ⟨g, i * 3, none⟩ = some (.int .u32 x) ∧ wr.drew.cell? ⟨g, i * 3 + 1, none⟩ = some (.int .i64 y) ∧ wr.drew.cell? ⟨g, i * 3 + 2, none⟩ = some (.int .i64 z) ∧ wr.drew.cell? ⟨k, i * 3, none⟩ = some (.int .u32 x) ∧ wr.drew.cell? ⟨k, i * 3 + 1, none⟩ = some (.int .i64 y) ∧ wr.drew.cell? ⟨k, i * 3 + 2, none⟩ = some (.int .i64 z) := ⟨c0, c1, c2, d0, d1, d2⟩
      have HG : Hid (w.grownBy wr.drew none) := gb_drew hg
      clear hS hT hn
      go_wp2_with fail
      go_region_held3 (fun W => W.cell? ⟨g, i * 3, none⟩ = some (.int .u32 x) ∧ W.cell? ⟨g, i * 3 + 1, none⟩ = some (.int .i64 y) ∧ W.cell? ⟨g, i * 3 + 2, none⟩ = some (.int .i64 z) ∧ W.cell? ⟨k, i * 3, none⟩ = some (.int .u32 x) ∧ W.cell? ⟨k, i * 3 + 1, none⟩ = some (.int .i64 y) ∧ W.cell? ⟨k, i * 3 + 2, none⟩ = some (.int .i64 z)) ((first | with_reducible exact hk0 | go_keep)) (fail)
      go_wp2_with fail
      go_roundw
      case rel => exact ⟨i + 1, by omega, by go_num, HG.out⟩
      case measure => simp [intOf]; omega
    · obtain rfl : i = n := by omega
      clear hS hT
      go_wp2_with fail
      go_ret
      exact ⟨rfl, hg⟩
end Go.Proofs.Ytphhofbdekbggaa
