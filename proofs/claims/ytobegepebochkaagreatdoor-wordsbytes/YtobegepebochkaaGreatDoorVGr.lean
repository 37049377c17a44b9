import Derived.Test.YtobegepebochkaaGreatDoorVPbm
set_option linter.unusedVariables false
set_option linter.unusedSimpArgs false
namespace Go.Proofs.YtobegepebochkaaGreatDoor
open Go.RowKit Go.Maps
attribute [local go_sem] Oper.semAt_some undef
set_option maxRecDepth 100000 in
set_option maxHeartbeats 8000000 in
theorem may_r12 {W : World} {b1 hb flags tok del : Nat} {exp : Int} {y1 y2 y3 y4 T : Bool} {ps : String} {K : Act → World → Prop} {Q : Exit → Act → World → Prop} {x0 x2 x3 x5 x6 x7 x8 x9 x10 x11 x12 x13 x14 x15 x16 x17 x18 x19 x20 x21 x22 x23 x24 x25 x26 x27 x28 x29 x30 x31 x32 x33 x34 x35 x36 x37 x38 x39 x40 x41 x42 x43 x44 x45 x46 x47 x48 x49 x50 x51 x52 x53 x54 x55 : Value}
    (p2 : W.cell? ⟨b1, 2, none⟩ = some (.int .u64 flags)) (p3 : W.cell? ⟨b1, 3, none⟩ = some (.int .i64 exp)) (p4 : W.cell? ⟨b1, 4, none⟩ = some (.int .u64 tok)) (p5 : W.cell? ⟨b1, 5, none⟩ = some (.int .u64 del))
    (a1 : W.cell? ⟨hb, 1, none⟩ = some (.bool y1)) (a2 : W.cell? ⟨hb, 2, none⟩ = some (.bool y2)) (a3 : W.cell? ⟨hb, 3, none⟩ = some (.bool y3)) (a4 : W.cell? ⟨hb, 4, none⟩ = some (.bool y4))
    (hT : ((((decide (4294967295 < flags) || (decide (0 < flags) && !y1)) || (decide (exp ≠ 0) && !y2)) || (decide (0 < tok) && !y3)) || (decide (0 < del) && !y4)) = T)
    (hK : ∀ u56 u57 u58 u59 u60 u61 u62 u63 u64 u65 u66 u67 u68 u69 u70 u71 u72 u73 u74 u75 u76 u77 u78 u79 u80 u81 u82 u83 u84 u85 u86 u87 u88 u89 u90 u91 u92 u93 u94 u95 u96 u97 : Value, K ⟨List.toArray (x0 :: Value.pointer (some ⟨b1, 0, none⟩) :: x2 :: x3 :: Value.pointer (some ⟨hb, 0, none⟩) :: x5 :: x6 :: x7 :: x8 :: x9 :: x10 :: x11 :: x12 :: x13 :: x14 :: x15 :: x16 :: x17 :: x18 :: x19 :: x20 :: x21 :: x22 :: x23 :: x24 :: x25 :: x26 :: x27 :: x28 :: x29 :: x30 :: x31 :: x32 :: x33 :: x34 :: x35 :: x36 :: x37 :: x38 :: x39 :: x40 :: x41 :: x42 :: x43 :: x44 :: x45 :: x46 :: x47 :: x48 :: x49 :: x50 :: x51 :: x52 :: x53 :: x54 :: x55 :: u56 :: u57 :: u58 :: u59 :: u60 :: u61 :: u62 :: u63 :: u64 :: u65 :: u66 :: u67 :: u68 :: u69 :: u70 :: u71 :: u72 :: u73 :: u74 :: u75 :: u76 :: u77 :: u78 :: u79 :: u80 :: u81 :: u82 :: u83 :: u84 :: u85 :: u86 :: u87 :: u88 :: u89 :: u90 :: u91 :: u92 :: u93 :: u94 :: u95 :: u96 :: u97 :: Value.bool T :: undef :: undef :: undef :: undef :: undef :: undef :: undef :: undef :: undef :: undef :: undef :: undef :: undef :: undef :: undef :: undef :: undef :: undef :: undef :: undef :: undef :: undef :: undef :: undef :: undef :: undef :: undef :: undef :: undef :: undef :: undef :: undef :: undef :: undef :: undef :: undef :: undef :: undef :: undef :: undef :: undef :: undef :: undef :: undef :: undef :: undef :: undef :: undef :: undef :: undef :: undef :: undef :: undef :: undef :: undef :: undef :: undef :: undef :: undef :: undef :: undef :: undef :: undef :: undef :: undef :: undef :: undef :: undef :: []), []⟩ W) :
    (Code.region 12 #[{ dst := some 56, op := Op.fieldAddr 41 (Operand.tmp 1) 2, type := 0, pos := ps, after := #[], guard := none }, { dst := some 57, op := Op.load 37 (Operand.tmp 56), type := 37, pos := ps, after := #[{ on := 0, ground := Ground.data }], guard := none }, { dst := some 58, op := Op.binOp BinOp.gtr 37 (Operand.tmp 57) (Operand.const (Value.int IntKind.u64 4294967295)) 37, type := 4, pos := ps, after := #[{ on := 1, ground := Ground.data }], guard := none }, { dst := some 59, op := Op.move (Operand.tmp 58), type := 4, pos := ps, after := #[{ on := 2, ground := Ground.data }], guard := none }, { dst := some 60, op := Op.fieldAddr 41 (Operand.tmp 1) 2, type := 0, pos := ps, after := #[{ on := 3, ground := Ground.guard }], guard := some (3, false) }, { dst := some 61, op := Op.load 37 (Operand.tmp 60), type := 37, pos := ps, after := #[{ on := 4, ground := Ground.data }, { on := 3, ground := Ground.guard }], guard := some (3, false) }, { dst := some 62, op := Op.binOp BinOp.gtr 37 (Operand.tmp 61) (Operand.const (Value.int IntKind.u64 0)) 37, type := 4, pos := ps, after := #[{ on := 5, ground := Ground.data }, { on := 3, ground := Ground.guard }], guard := some (3, false) }, { dst := some 63, op := Op.move (Operand.tmp 62), type := 4, pos := ps, after := #[{ on := 6, ground := Ground.data }, { on := 3, ground := Ground.chain }, { on := 3, ground := Ground.guard }], guard := some (3, false) }, { dst := some 64, op := Op.indexAddr 177 (Operand.tmp 4) (Operand.const (Value.int IntKind.i64 1)), type := 0, pos := ps, after := #[{ on := 7, ground := Ground.guard }], guard := some (7, true) }, { dst := some 65, op := Op.load 4 (Operand.tmp 64), type := 4, pos := ps, after := #[{ on := 8, ground := Ground.data }, { on := 7, ground := Ground.guard }], guard := some (7, true) }, { dst := some 66, op := Op.unOp UnOp.not 4 (Operand.tmp 65), type := 4, pos := ps, after := #[{ on := 9, ground := Ground.data }, { on := 7, ground := Ground.guard }], guard := some (7, true) }, { dst := some 67, op := Op.pick (Operand.tmp 63) (Operand.tmp 66) (Operand.const (Value.bool false)), type := 4, pos := ps, after := #[{ on := 7, ground := Ground.data }, { on := 10, ground := Ground.data }, { on := 3, ground := Ground.guard }], guard := some (3, false) }, { dst := some 68, op := Op.pick (Operand.tmp 59) (Operand.const (Value.bool true)) (Operand.tmp 67), type := 4, pos := ps, after := #[{ on := 3, ground := Ground.data }, { on := 11, ground := Ground.data }], guard := none }, { dst := some 69, op := Op.move (Operand.tmp 68), type := 4, pos := ps, after := #[{ on := 12, ground := Ground.data }, { on := 7, ground := Ground.chain }], guard := none }, { dst := some 70, op := Op.fieldAddr 41 (Operand.tmp 1) 3, type := 0, pos := ps, after := #[{ on := 13, ground := Ground.guard }], guard := some (13, false) }, { dst := some 71, op := Op.load 3 (Operand.tmp 70), type := 3, pos := ps, after := #[{ on := 14, ground := Ground.data }, { on := 13, ground := Ground.guard }], guard := some (13, false) }, { dst := some 72, op := Op.binOp BinOp.neq 3 (Operand.tmp 71) (Operand.const (Value.int IntKind.i64 0)) 3, type := 4, pos := ps, after := #[{ on := 15, ground := Ground.data }, { on := 13, ground := Ground.guard }], guard := some (13, false) }, { dst := some 73, op := Op.move (Operand.tmp 72), type := 4, pos := ps, after := #[{ on := 16, ground := Ground.data }, { on := 13, ground := Ground.chain }, { on := 13, ground := Ground.guard }], guard := some (13, false) }, { dst := some 74, op := Op.indexAddr 177 (Operand.tmp 4) (Operand.const (Value.int IntKind.i64 2)), type := 0, pos := ps, after := #[{ on := 17, ground := Ground.guard }], guard := some (17, true) }, { dst := some 75, op := Op.load 4 (Operand.tmp 74), type := 4, pos := ps, after := #[{ on := 18, ground := Ground.data }, { on := 17, ground := Ground.guard }], guard := some (17, true) }, { dst := some 76, op := Op.unOp UnOp.not 4 (Operand.tmp 75), type := 4, pos := ps, after := #[{ on := 19, ground := Ground.data }, { on := 17, ground := Ground.guard }], guard := some (17, true) }, { dst := some 77, op := Op.pick (Operand.tmp 73) (Operand.tmp 76) (Operand.const (Value.bool false)), type := 4, pos := ps, after := #[{ on := 17, ground := Ground.data }, { on := 20, ground := Ground.data }, { on := 13, ground := Ground.guard }], guard := some (13, false) }, { dst := some 78, op := Op.pick (Operand.tmp 69) (Operand.const (Value.bool true)) (Operand.tmp 77), type := 4, pos := ps, after := #[{ on := 13, ground := Ground.data }, { on := 21, ground := Ground.data }], guard := none }, { dst := some 79, op := Op.move (Operand.tmp 78), type := 4, pos := ps, after := #[{ on := 22, ground := Ground.data }, { on := 17, ground := Ground.chain }], guard := none }, { dst := some 80, op := Op.fieldAddr 41 (Operand.tmp 1) 4, type := 0, pos := ps, after := #[{ on := 23, ground := Ground.guard }], guard := some (23, false) }, { dst := some 81, op := Op.load 37 (Operand.tmp 80), type := 37, pos := ps, after := #[{ on := 24, ground := Ground.data }, { on := 23, ground := Ground.guard }], guard := some (23, false) }, { dst := some 82, op := Op.binOp BinOp.gtr 37 (Operand.tmp 81) (Operand.const (Value.int IntKind.u64 0)) 37, type := 4, pos := ps, after := #[{ on := 25, ground := Ground.data }, { on := 23, ground := Ground.guard }], guard := some (23, false) }, { dst := some 83, op := Op.move (Operand.tmp 82), type := 4, pos := ps, after := #[{ on := 26, ground := Ground.data }, { on := 23, ground := Ground.chain }, { on := 23, ground := Ground.guard }], guard := some (23, false) }, { dst := some 84, op := Op.indexAddr 177 (Operand.tmp 4) (Operand.const (Value.int IntKind.i64 3)), type := 0, pos := ps, after := #[{ on := 27, ground := Ground.guard }], guard := some (27, true) }, { dst := some 85, op := Op.load 4 (Operand.tmp 84), type := 4, pos := ps, after := #[{ on := 28, ground := Ground.data }, { on := 27, ground := Ground.guard }], guard := some (27, true) }, { dst := some 86, op := Op.unOp UnOp.not 4 (Operand.tmp 85), type := 4, pos := ps, after := #[{ on := 29, ground := Ground.data }, { on := 27, ground := Ground.guard }], guard := some (27, true) }, { dst := some 87, op := Op.pick (Operand.tmp 83) (Operand.tmp 86) (Operand.const (Value.bool false)), type := 4, pos := ps, after := #[{ on := 27, ground := Ground.data }, { on := 30, ground := Ground.data }, { on := 23, ground := Ground.guard }], guard := some (23, false) }, { dst := some 88, op := Op.pick (Operand.tmp 79) (Operand.const (Value.bool true)) (Operand.tmp 87), type := 4, pos := ps, after := #[{ on := 23, ground := Ground.data }, { on := 31, ground := Ground.data }], guard := none }, { dst := some 89, op := Op.move (Operand.tmp 88), type := 4, pos := ps, after := #[{ on := 32, ground := Ground.data }, { on := 27, ground := Ground.chain }], guard := none }, { dst := some 90, op := Op.fieldAddr 41 (Operand.tmp 1) 5, type := 0, pos := ps, after := #[{ on := 33, ground := Ground.guard }], guard := some (33, false) }, { dst := some 91, op := Op.load 37 (Operand.tmp 90), type := 37, pos := ps, after := #[{ on := 34, ground := Ground.data }, { on := 33, ground := Ground.guard }], guard := some (33, false) }, { dst := some 92, op := Op.binOp BinOp.gtr 37 (Operand.tmp 91) (Operand.const (Value.int IntKind.u64 0)) 37, type := 4, pos := ps, after := #[{ on := 35, ground := Ground.data }, { on := 33, ground := Ground.guard }], guard := some (33, false) }, { dst := some 93, op := Op.move (Operand.tmp 92), type := 4, pos := ps, after := #[{ on := 36, ground := Ground.data }, { on := 33, ground := Ground.chain }, { on := 33, ground := Ground.guard }], guard := some (33, false) }, { dst := some 94, op := Op.indexAddr 177 (Operand.tmp 4) (Operand.const (Value.int IntKind.i64 4)), type := 0, pos := ps, after := #[{ on := 37, ground := Ground.guard }], guard := some (37, true) }, { dst := some 95, op := Op.load 4 (Operand.tmp 94), type := 4, pos := ps, after := #[{ on := 38, ground := Ground.data }, { on := 37, ground := Ground.guard }], guard := some (37, true) }, { dst := some 96, op := Op.unOp UnOp.not 4 (Operand.tmp 95), type := 4, pos := ps, after := #[{ on := 39, ground := Ground.data }, { on := 37, ground := Ground.guard }], guard := some (37, true) }, { dst := some 97, op := Op.pick (Operand.tmp 93) (Operand.tmp 96) (Operand.const (Value.bool false)), type := 4, pos := ps, after := #[{ on := 37, ground := Ground.data }, { on := 40, ground := Ground.data }, { on := 33, ground := Ground.guard }], guard := some (33, false) }, { dst := some 98, op := Op.pick (Operand.tmp 89) (Operand.const (Value.bool true)) (Operand.tmp 97), type := 4, pos := ps, after := #[{ on := 33, ground := Ground.data }, { on := 41, ground := Ground.data }], guard := none }] false).wp Tryz.prog (Exit.then K Q) ⟨List.toArray (x0 :: Value.pointer (some ⟨b1, 0, none⟩) :: x2 :: x3 :: Value.pointer (some ⟨hb, 0, none⟩) :: x5 :: x6 :: x7 :: x8 :: x9 :: x10 :: x11 :: x12 :: x13 :: x14 :: x15 :: x16 :: x17 :: x18 :: x19 :: x20 :: x21 :: x22 :: x23 :: x24 :: x25 :: x26 :: x27 :: x28 :: x29 :: x30 :: x31 :: x32 :: x33 :: x34 :: x35 :: x36 :: x37 :: x38 :: x39 :: x40 :: x41 :: x42 :: x43 :: x44 :: x45 :: x46 :: x47 :: x48 :: x49 :: x50 :: x51 :: x52 :: x53 :: x54 :: x55 :: undef :: undef :: undef :: undef :: undef :: undef :: undef :: undef :: undef :: undef :: undef :: undef :: undef :: undef :: undef :: undef :: undef :: undef :: undef :: undef :: undef :: undef :: undef :: undef :: undef :: undef :: undef :: undef :: undef :: undef :: undef :: undef :: undef :: undef :: undef :: undef :: undef :: undef :: undef :: undef :: undef :: undef :: undef :: undef :: undef :: undef :: undef :: undef :: undef :: undef :: undef :: undef :: undef :: undef :: undef :: undef :: undef :: undef :: undef :: undef :: undef :: undef :: undef :: undef :: undef :: undef :: undef :: undef :: undef :: undef :: undef :: undef :: undef :: undef :: undef :: undef :: undef :: undef :: undef :: undef :: undef :: undef :: undef :: undef :: undef :: undef :: undef :: undef :: undef :: undef :: undef :: undef :: undef :: undef :: undef :: undef :: undef :: undef :: undef :: undef :: undef :: undef :: undef :: undef :: undef :: undef :: undef :: undef :: undef :: undef :: undef :: []), []⟩ W := by
  have HT := Lib.hid hT
  have HK := Lib.hid hK
  clear hT hK
  obtain ⟨f1, hf1⟩ : ∃ b, decide ((4294967295 : Int) < (flags : Int)) = b := ⟨_, rfl⟩
  obtain ⟨f2, hf2⟩ : ∃ b, decide ((0 : Int) < (flags : Int)) = b := ⟨_, rfl⟩
  obtain ⟨eb, heb⟩ : ∃ b, (!(exp == 0)) = b := ⟨_, rfl⟩
  obtain ⟨tb, htb⟩ : ∃ b, decide ((0 : Int) < (tok : Int)) = b := ⟨_, rfl⟩
  obtain ⟨db, hdb⟩ : ∃ b, decide ((0 : Int) < (del : Int)) = b := ⟨_, rfl⟩
  have e1 : decide (4294967295 < flags) = f1 := by rw [← hf1]; exact decide_eq_decide.2 (by omega)
  have e2 : decide (0 < flags) = f2 := by rw [← hf2]; exact decide_eq_decide.2 (by omega)
  have e3 : decide (exp ≠ 0) = eb := by
    rw [← heb]
    by_cases h : exp = 0 <;> simp [h]
  have e4 : decide (0 < tok) = tb := by rw [← htb]; exact decide_eq_decide.2 (by omega)
  have e5 : decide (0 < del) = db := by rw [← hdb]; exact decide_eq_decide.2 (by omega)
  have hT := HT.out
  rw [e1, e2, e3, e4, e5] at hT
  replace HT := Lib.hid hT
  clear e3 hT
  refine wp_region_lit ?_
  refine wpList_cutN 14 (fun a w => W = w ∧ ∃ (c : Bool) (u56 u57 u58 u59 u60 u61 u62 u63 u64 u65 u66 u67 u68 : Value), c = (f1 || (f2 && !y1)) ∧ a = ⟨List.toArray (x0 :: Value.pointer (some ⟨b1, 0, none⟩) :: x2 :: x3 :: Value.pointer (some ⟨hb, 0, none⟩) :: x5 :: x6 :: x7 :: x8 :: x9 :: x10 :: x11 :: x12 :: x13 :: x14 :: x15 :: x16 :: x17 :: x18 :: x19 :: x20 :: x21 :: x22 :: x23 :: x24 :: x25 :: x26 :: x27 :: x28 :: x29 :: x30 :: x31 :: x32 :: x33 :: x34 :: x35 :: x36 :: x37 :: x38 :: x39 :: x40 :: x41 :: x42 :: x43 :: x44 :: x45 :: x46 :: x47 :: x48 :: x49 :: x50 :: x51 :: x52 :: x53 :: x54 :: x55 :: u56 :: u57 :: u58 :: u59 :: u60 :: u61 :: u62 :: u63 :: u64 :: u65 :: u66 :: u67 :: u68 :: Value.bool c :: undef :: undef :: undef :: undef :: undef :: undef :: undef :: undef :: undef :: undef :: undef :: undef :: undef :: undef :: undef :: undef :: undef :: undef :: undef :: undef :: undef :: undef :: undef :: undef :: undef :: undef :: undef :: undef :: undef :: undef :: undef :: undef :: undef :: undef :: undef :: undef :: undef :: undef :: undef :: undef :: undef :: undef :: undef :: undef :: undef :: undef :: undef :: undef :: undef :: undef :: undef :: undef :: undef :: undef :: undef :: undef :: undef :: undef :: undef :: undef :: undef :: undef :: undef :: undef :: undef :: undef :: undef :: undef :: undef :: undef :: undef :: undef :: undef :: undef :: undef :: undef :: undef :: undef :: undef :: undef :: undef :: undef :: undef :: undef :: undef :: undef :: undef :: undef :: undef :: undef :: undef :: undef :: undef :: undef :: undef :: undef :: undef :: []), []⟩) ?_ ?_
  rotate_left 1
  · intro J K2 hJ hK
    simp only [List.take_succ_cons, List.take_zero]
    clear HT HK
    cases f1 with
    | true =>
      go_wp2_with fail
      exact Met.intro (hJ _ _ ⟨rfl, true, _, _, _, _, _, _, _, _, _, _, _, _, _, rfl, rfl⟩)
    | false =>
      cases f2 with
      | false =>
        go_wp2_with fail
        exact Met.intro (hJ _ _ ⟨rfl, false, _, _, _, _, _, _, _, _, _, _, _, _, _, rfl, rfl⟩)
      | true =>
        cases y1 with
        | false =>
          go_wp2_with fail
          exact Met.intro (hJ _ _ ⟨rfl, true, _, _, _, _, _, _, _, _, _, _, _, _, _, rfl, rfl⟩)
        | true =>
          go_wp2_with fail
          exact Met.intro (hJ _ _ ⟨rfl, false, _, _, _, _, _, _, _, _, _, _, _, _, _, rfl, rfl⟩)
  rintro _ _ ⟨rfl, c0, u56, u57, u58, u59, u60, u61, u62, u63, u64, u65, u66, u67, u68, hc0, rfl⟩
  simp only [List.drop_succ_cons, List.drop_zero]
  have HC0 := Lib.hid hc0
  clear hc0
  have HT2 := HT.out; rw [← HC0.out] at HT2; replace HT := Lib.hid HT2; clear HT2 HC0 hf1 hf2 e1 e2 f1 f2 a1 y1 p2
  refine wpList_cutN 10 (fun a w => W = w ∧ ∃ (c : Bool) (u56 u57 u58 u59 u60 u61 u62 u63 u64 u65 u66 u67 u68 u69 u70 u71 u72 u73 u74 u75 u76 u77 u78 : Value), c = (c0 || (eb && !y2)) ∧ a = ⟨List.toArray (x0 :: Value.pointer (some ⟨b1, 0, none⟩) :: x2 :: x3 :: Value.pointer (some ⟨hb, 0, none⟩) :: x5 :: x6 :: x7 :: x8 :: x9 :: x10 :: x11 :: x12 :: x13 :: x14 :: x15 :: x16 :: x17 :: x18 :: x19 :: x20 :: x21 :: x22 :: x23 :: x24 :: x25 :: x26 :: x27 :: x28 :: x29 :: x30 :: x31 :: x32 :: x33 :: x34 :: x35 :: x36 :: x37 :: x38 :: x39 :: x40 :: x41 :: x42 :: x43 :: x44 :: x45 :: x46 :: x47 :: x48 :: x49 :: x50 :: x51 :: x52 :: x53 :: x54 :: x55 :: u56 :: u57 :: u58 :: u59 :: u60 :: u61 :: u62 :: u63 :: u64 :: u65 :: u66 :: u67 :: u68 :: u69 :: u70 :: u71 :: u72 :: u73 :: u74 :: u75 :: u76 :: u77 :: u78 :: Value.bool c :: undef :: undef :: undef :: undef :: undef :: undef :: undef :: undef :: undef :: undef :: undef :: undef :: undef :: undef :: undef :: undef :: undef :: undef :: undef :: undef :: undef :: undef :: undef :: undef :: undef :: undef :: undef :: undef :: undef :: undef :: undef :: undef :: undef :: undef :: undef :: undef :: undef :: undef :: undef :: undef :: undef :: undef :: undef :: undef :: undef :: undef :: undef :: undef :: undef :: undef :: undef :: undef :: undef :: undef :: undef :: undef :: undef :: undef :: undef :: undef :: undef :: undef :: undef :: undef :: undef :: undef :: undef :: undef :: undef :: undef :: undef :: undef :: undef :: undef :: undef :: undef :: undef :: undef :: undef :: undef :: undef :: undef :: undef :: undef :: undef :: undef :: undef :: []), []⟩) ?_ ?_
  rotate_left 1
  · intro J K2 hJ hK
    simp only [List.take_succ_cons, List.take_zero]
    clear HT HK
    cases c0 with
    | true =>
      go_wp2_with fail
      exact Met.intro (hJ _ _ ⟨rfl, true, _, _, _, _, _, _, _, _, _, _, _, _, _, _, _, _, _, _, _, _, _, _, _, rfl, rfl⟩)
    | false =>
      cases eb with
      | false =>
        have h0 : exp = 0 := by simpa using heb
        subst h0
        clear heb
        go_wp2_with fail
        exact Met.intro (hJ _ _ ⟨rfl, false, _, _, _, _, _, _, _, _, _, _, _, _, _, _, _, _, _, _, _, _, _, _, _, rfl, rfl⟩)
      | true =>
        have h0 : ¬ exp = 0 := by simpa using heb
        have h1 : (exp != 0) = true := by simpa using h0
        clear heb
        cases y2 with
        | false =>
          go_wp2_with fail
          exact Met.intro (hJ _ _ ⟨rfl, true, _, _, _, _, _, _, _, _, _, _, _, _, _, _, _, _, _, _, _, _, _, _, _, rfl, rfl⟩)
        | true =>
          go_wp2_with fail
          exact Met.intro (hJ _ _ ⟨rfl, false, _, _, _, _, _, _, _, _, _, _, _, _, _, _, _, _, _, _, _, _, _, _, _, rfl, rfl⟩)
  rintro _ _ ⟨rfl, c1, u56, u57, u58, u59, u60, u61, u62, u63, u64, u65, u66, u67, u68, u69, u70, u71, u72, u73, u74, u75, u76, u77, u78, hc1, rfl⟩
  simp only [List.drop_succ_cons, List.drop_zero]
  have HC1 := Lib.hid hc1
  clear hc1
  have HT2 := HT.out; rw [← HC1.out] at HT2; replace HT := Lib.hid HT2; clear HT2 HC1 heb eb a2 y2 p3 c0
  refine wpList_cutN 10 (fun a w => W = w ∧ ∃ (c : Bool) (u56 u57 u58 u59 u60 u61 u62 u63 u64 u65 u66 u67 u68 u69 u70 u71 u72 u73 u74 u75 u76 u77 u78 u79 u80 u81 u82 u83 u84 u85 u86 u87 u88 : Value), c = (c1 || (tb && !y3)) ∧ a = ⟨List.toArray (x0 :: Value.pointer (some ⟨b1, 0, none⟩) :: x2 :: x3 :: Value.pointer (some ⟨hb, 0, none⟩) :: x5 :: x6 :: x7 :: x8 :: x9 :: x10 :: x11 :: x12 :: x13 :: x14 :: x15 :: x16 :: x17 :: x18 :: x19 :: x20 :: x21 :: x22 :: x23 :: x24 :: x25 :: x26 :: x27 :: x28 :: x29 :: x30 :: x31 :: x32 :: x33 :: x34 :: x35 :: x36 :: x37 :: x38 :: x39 :: x40 :: x41 :: x42 :: x43 :: x44 :: x45 :: x46 :: x47 :: x48 :: x49 :: x50 :: x51 :: x52 :: x53 :: x54 :: x55 :: u56 :: u57 :: u58 :: u59 :: u60 :: u61 :: u62 :: u63 :: u64 :: u65 :: u66 :: u67 :: u68 :: u69 :: u70 :: u71 :: u72 :: u73 :: u74 :: u75 :: u76 :: u77 :: u78 :: u79 :: u80 :: u81 :: u82 :: u83 :: u84 :: u85 :: u86 :: u87 :: u88 :: Value.bool c :: undef :: undef :: undef :: undef :: undef :: undef :: undef :: undef :: undef :: undef :: undef :: undef :: undef :: undef :: undef :: undef :: undef :: undef :: undef :: undef :: undef :: undef :: undef :: undef :: undef :: undef :: undef :: undef :: undef :: undef :: undef :: undef :: undef :: undef :: undef :: undef :: undef :: undef :: undef :: undef :: undef :: undef :: undef :: undef :: undef :: undef :: undef :: undef :: undef :: undef :: undef :: undef :: undef :: undef :: undef :: undef :: undef :: undef :: undef :: undef :: undef :: undef :: undef :: undef :: undef :: undef :: undef :: undef :: undef :: undef :: undef :: undef :: undef :: undef :: undef :: undef :: undef :: []), []⟩) ?_ ?_
  rotate_left 1
  · intro J K2 hJ hK
    simp only [List.take_succ_cons, List.take_zero]
    clear HT HK
    cases c1 with
    | true =>
      go_wp2_with fail
      exact Met.intro (hJ _ _ ⟨rfl, true, _, _, _, _, _, _, _, _, _, _, _, _, _, _, _, _, _, _, _, _, _, _, _, _, _, _, _, _, _, _, _, _, _, rfl, rfl⟩)
    | false =>
      cases tb with
      | false =>
        go_wp2_with fail
        exact Met.intro (hJ _ _ ⟨rfl, false, _, _, _, _, _, _, _, _, _, _, _, _, _, _, _, _, _, _, _, _, _, _, _, _, _, _, _, _, _, _, _, _, _, rfl, rfl⟩)
      | true =>
        cases y3 with
        | false =>
          go_wp2_with fail
          exact Met.intro (hJ _ _ ⟨rfl, true, _, _, _, _, _, _, _, _, _, _, _, _, _, _, _, _, _, _, _, _, _, _, _, _, _, _, _, _, _, _, _, _, _, rfl, rfl⟩)
        | true =>
          go_wp2_with fail
          exact Met.intro (hJ _ _ ⟨rfl, false, _, _, _, _, _, _, _, _, _, _, _, _, _, _, _, _, _, _, _, _, _, _, _, _, _, _, _, _, _, _, _, _, _, rfl, rfl⟩)
  rintro _ _ ⟨rfl, c2, u56, u57, u58, u59, u60, u61, u62, u63, u64, u65, u66, u67, u68, u69, u70, u71, u72, u73, u74, u75, u76, u77, u78, u79, u80, u81, u82, u83, u84, u85, u86, u87, u88, hc2, rfl⟩
  simp only [List.drop_succ_cons, List.drop_zero]
  have HC2 := Lib.hid hc2
  clear hc2
  have HT2 := HT.out; rw [← HC2.out] at HT2; replace HT := Lib.hid HT2; clear HT2 HC2 htb e4 tb a3 y3 p4 c1
  cases c2 with
  | true =>
    go_wp2_with fail
    have hT : true = T := by rw [← HT.out]; rfl
    subst hT
    exact HK.out _ _ _ _ _ _ _ _ _ _ _ _ _ _ _ _ _ _ _ _ _ _ _ _ _ _ _ _ _ _ _ _ _ _ _ _ _ _ _ _ _ _
  | false =>
    cases db with
    | false =>
      go_wp2_with fail
      have hT : false = T := by rw [← HT.out]; rfl
      subst hT
      exact HK.out _ _ _ _ _ _ _ _ _ _ _ _ _ _ _ _ _ _ _ _ _ _ _ _ _ _ _ _ _ _ _ _ _ _ _ _ _ _ _ _ _ _
    | true =>
      cases y4 with
      | false =>
        go_wp2_with fail
        have hT : true = T := by rw [← HT.out]; rfl
        subst hT
        exact HK.out _ _ _ _ _ _ _ _ _ _ _ _ _ _ _ _ _ _ _ _ _ _ _ _ _ _ _ _ _ _ _ _ _ _ _ _ _ _ _ _ _ _
      | true =>
        go_wp2_with fail
        have hT : false = T := by rw [← HT.out]; rfl
        subst hT
        exact HK.out _ _ _ _ _ _ _ _ _ _ _ _ _ _ _ _ _ _ _ _ _ _ _ _ _ _ _ _ _ _ _ _ _ _ _ _ _ _ _ _ _ _
end Go.Proofs.YtobegepebochkaaGreatDoor
