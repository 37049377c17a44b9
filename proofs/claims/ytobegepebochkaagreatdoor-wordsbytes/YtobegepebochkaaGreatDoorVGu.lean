import Derived.Test.YtobegepebochkaaGreatDoorVPbm
set_option linter.unusedVariables false
set_option linter.unusedSimpArgs false
namespace Go.Proofs.YtobegepebochkaaGreatDoor
open Go.RowKit Go.Maps
attribute [local go_sem] Oper.semAt_some undef
set_option maxRecDepth 100000 in
set_option maxHeartbeats 8000000 in
theorem may_r18 {W : World} {b1 fb n dc : Nat} {da : Option Addr} {v exp : Int} {nr re bl : Bool} {T : Bool} {ps : String} {K : Act → World → Prop} {Q : Exit → Act → World → Prop} {x0 x2 x4 x5 x6 x7 x8 x9 x10 x11 x12 x13 x14 x15 x16 x17 x18 x19 x20 x21 x22 x23 x24 x25 x26 x27 x28 x29 x30 x31 x32 x33 x34 x35 x36 x37 x38 x39 x40 x41 x42 x43 x44 x45 x46 x47 x48 x49 x50 x51 x52 x53 x54 x55 x56 x57 x58 x59 x60 x61 x62 x63 x64 x65 x66 x67 x68 x69 x70 x71 x72 x73 x74 x75 x76 x77 x78 x79 x80 x81 x82 x83 x84 x85 x86 x87 x88 x89 x90 x91 x92 x93 x94 x95 x96 x97 x98 x99 x100 x101 x102 x103 x104 x105 x106 x107 x108 x109 x110 x111 x112 x113 x114 x115 x116 x117 x118 x119 x120 x121 x122 x123 x124 x125 x126 x127 x128 : Value}
    (p0 : W.cell? ⟨b1, 0, none⟩ = some (.int .i64 v)) (p3 : W.cell? ⟨b1, 3, none⟩ = some (.int .i64 exp)) (p6 : W.cell? ⟨b1, 6, none⟩ = some (.slice da n dc)) (p7 : W.cell? ⟨b1, 7, none⟩ = some (.bool nr))
    (r4 : W.cell? ⟨fb, 4, none⟩ = some (.bool re)) (r5 : W.cell? ⟨fb, 5, none⟩ = some (.bool bl))
    (hT : ((((decide (v = 15) && decide (exp < 0)) || (nr && !re)) || (decide (0 < n) && !bl)) || decide (2147483647 < n)) = T)
    (hK : ∀ (u129 u130 u131 u132 u133 u134 u135 u136 u137 u138 u139 u140 u141 u142 u143 u144 u145 u146 u147 u148 u149 u150 u151 u152 u153 u154 u155 u156 u157 u158 u159 u160 u161 u162 : Value), u162 = Value.bool T → K ⟨List.toArray (x0 :: Value.pointer (some ⟨b1, 0, none⟩) :: x2 :: Value.pointer (some ⟨fb, 0, none⟩) :: x4 :: x5 :: x6 :: x7 :: x8 :: x9 :: x10 :: x11 :: x12 :: x13 :: x14 :: x15 :: x16 :: x17 :: x18 :: x19 :: x20 :: x21 :: x22 :: x23 :: x24 :: x25 :: x26 :: x27 :: x28 :: x29 :: x30 :: x31 :: x32 :: x33 :: x34 :: x35 :: x36 :: x37 :: x38 :: x39 :: x40 :: x41 :: x42 :: x43 :: x44 :: x45 :: x46 :: x47 :: x48 :: x49 :: x50 :: x51 :: x52 :: x53 :: x54 :: x55 :: x56 :: x57 :: x58 :: x59 :: x60 :: x61 :: x62 :: x63 :: x64 :: x65 :: x66 :: x67 :: x68 :: x69 :: x70 :: x71 :: x72 :: x73 :: x74 :: x75 :: x76 :: x77 :: x78 :: x79 :: x80 :: x81 :: x82 :: x83 :: x84 :: x85 :: x86 :: x87 :: x88 :: x89 :: x90 :: x91 :: x92 :: x93 :: x94 :: x95 :: x96 :: x97 :: x98 :: x99 :: x100 :: x101 :: x102 :: x103 :: x104 :: x105 :: x106 :: x107 :: x108 :: x109 :: x110 :: x111 :: x112 :: x113 :: x114 :: x115 :: x116 :: x117 :: x118 :: x119 :: x120 :: x121 :: x122 :: x123 :: x124 :: x125 :: x126 :: x127 :: x128 :: u129 :: u130 :: u131 :: u132 :: u133 :: u134 :: u135 :: u136 :: u137 :: u138 :: u139 :: u140 :: u141 :: u142 :: u143 :: u144 :: u145 :: u146 :: u147 :: u148 :: u149 :: u150 :: u151 :: u152 :: u153 :: u154 :: u155 :: u156 :: u157 :: u158 :: u159 :: u160 :: u161 :: u162 :: undef :: undef :: undef :: undef :: []), []⟩ W) :
    (Code.region 18 #[{ dst := some 129, op := Op.fieldAddr 41 (Operand.tmp 1) 0, type := 0, pos := ps, after := #[], guard := none }, { dst := some 130, op := Op.load 3 (Operand.tmp 129), type := 3, pos := ps, after := #[{ on := 0, ground := Ground.data }], guard := none }, { dst := some 131, op := Op.binOp BinOp.eql 3 (Operand.tmp 130) (Operand.const (Value.int IntKind.i64 15)) 3, type := 4, pos := ps, after := #[{ on := 1, ground := Ground.data }], guard := none }, { dst := some 132, op := Op.move (Operand.tmp 131), type := 4, pos := ps, after := #[{ on := 2, ground := Ground.data }], guard := none }, { dst := some 133, op := Op.fieldAddr 41 (Operand.tmp 1) 3, type := 0, pos := ps, after := #[{ on := 3, ground := Ground.guard }], guard := some (3, true) }, { dst := some 134, op := Op.load 3 (Operand.tmp 133), type := 3, pos := ps, after := #[{ on := 4, ground := Ground.data }, { on := 3, ground := Ground.guard }], guard := some (3, true) }, { dst := some 135, op := Op.binOp BinOp.lss 3 (Operand.tmp 134) (Operand.const (Value.int IntKind.i64 0)) 3, type := 4, pos := ps, after := #[{ on := 5, ground := Ground.data }, { on := 3, ground := Ground.guard }], guard := some (3, true) }, { dst := some 136, op := Op.pick (Operand.tmp 132) (Operand.tmp 135) (Operand.const (Value.bool false)), type := 4, pos := ps, after := #[{ on := 3, ground := Ground.data }, { on := 6, ground := Ground.data }], guard := none }, { dst := some 137, op := Op.move (Operand.tmp 136), type := 4, pos := ps, after := #[{ on := 7, ground := Ground.data }, { on := 3, ground := Ground.chain }], guard := none }, { dst := some 138, op := Op.fieldAddr 41 (Operand.tmp 1) 7, type := 0, pos := ps, after := #[{ on := 8, ground := Ground.guard }], guard := some (8, false) }, { dst := some 139, op := Op.load 4 (Operand.tmp 138), type := 4, pos := ps, after := #[{ on := 9, ground := Ground.data }, { on := 8, ground := Ground.guard }], guard := some (8, false) }, { dst := some 140, op := Op.move (Operand.tmp 139), type := 4, pos := ps, after := #[{ on := 10, ground := Ground.data }, { on := 8, ground := Ground.chain }, { on := 8, ground := Ground.guard }], guard := some (8, false) }, { dst := some 141, op := Op.fieldAddr 111 (Operand.tmp 3) 4, type := 0, pos := ps, after := #[{ on := 11, ground := Ground.guard }], guard := some (11, true) }, { dst := some 142, op := Op.load 4 (Operand.tmp 141), type := 4, pos := ps, after := #[{ on := 12, ground := Ground.data }, { on := 11, ground := Ground.guard }], guard := some (11, true) }, { dst := some 143, op := Op.unOp UnOp.not 4 (Operand.tmp 142), type := 4, pos := ps, after := #[{ on := 13, ground := Ground.data }, { on := 11, ground := Ground.guard }], guard := some (11, true) }, { dst := some 144, op := Op.pick (Operand.tmp 140) (Operand.tmp 143) (Operand.const (Value.bool false)), type := 4, pos := ps, after := #[{ on := 11, ground := Ground.data }, { on := 14, ground := Ground.data }, { on := 8, ground := Ground.guard }], guard := some (8, false) }, { dst := some 145, op := Op.pick (Operand.tmp 137) (Operand.const (Value.bool true)) (Operand.tmp 144), type := 4, pos := ps, after := #[{ on := 8, ground := Ground.data }, { on := 15, ground := Ground.data }], guard := none }, { dst := some 146, op := Op.move (Operand.tmp 145), type := 4, pos := ps, after := #[{ on := 16, ground := Ground.data }, { on := 11, ground := Ground.chain }], guard := none }, { dst := some 147, op := Op.fieldAddr 41 (Operand.tmp 1) 6, type := 0, pos := ps, after := #[{ on := 17, ground := Ground.guard }], guard := some (17, false) }, { dst := some 148, op := Op.load 38 (Operand.tmp 147), type := 38, pos := ps, after := #[{ on := 18, ground := Ground.data }, { on := 17, ground := Ground.guard }], guard := some (17, false) }, { dst := some 149, op := Op.call { callee := Callee.builtin Builtin.len, args := #[Operand.tmp 148], argTypes := #[38] }, type := 3, pos := ps, after := #[{ on := 19, ground := Ground.data }, { on := 17, ground := Ground.guard }], guard := some (17, false) }, { dst := some 150, op := Op.binOp BinOp.gtr 3 (Operand.tmp 149) (Operand.const (Value.int IntKind.i64 0)) 3, type := 4, pos := ps, after := #[{ on := 20, ground := Ground.data }, { on := 17, ground := Ground.guard }], guard := some (17, false) }, { dst := some 151, op := Op.move (Operand.tmp 150), type := 4, pos := ps, after := #[{ on := 21, ground := Ground.data }, { on := 17, ground := Ground.chain }, { on := 17, ground := Ground.guard }], guard := some (17, false) }, { dst := some 152, op := Op.fieldAddr 111 (Operand.tmp 3) 5, type := 0, pos := ps, after := #[{ on := 22, ground := Ground.guard }], guard := some (22, true) }, { dst := some 153, op := Op.load 4 (Operand.tmp 152), type := 4, pos := ps, after := #[{ on := 23, ground := Ground.data }, { on := 22, ground := Ground.guard }], guard := some (22, true) }, { dst := some 154, op := Op.unOp UnOp.not 4 (Operand.tmp 153), type := 4, pos := ps, after := #[{ on := 24, ground := Ground.data }, { on := 22, ground := Ground.guard }], guard := some (22, true) }, { dst := some 155, op := Op.pick (Operand.tmp 151) (Operand.tmp 154) (Operand.const (Value.bool false)), type := 4, pos := ps, after := #[{ on := 22, ground := Ground.data }, { on := 25, ground := Ground.data }, { on := 17, ground := Ground.guard }], guard := some (17, false) }, { dst := some 156, op := Op.pick (Operand.tmp 146) (Operand.const (Value.bool true)) (Operand.tmp 155), type := 4, pos := ps, after := #[{ on := 17, ground := Ground.data }, { on := 26, ground := Ground.data }], guard := none }, { dst := some 157, op := Op.move (Operand.tmp 156), type := 4, pos := ps, after := #[{ on := 27, ground := Ground.data }, { on := 22, ground := Ground.chain }], guard := none }, { dst := some 158, op := Op.fieldAddr 41 (Operand.tmp 1) 6, type := 0, pos := ps, after := #[{ on := 28, ground := Ground.guard }], guard := some (28, false) }, { dst := some 159, op := Op.load 38 (Operand.tmp 158), type := 38, pos := ps, after := #[{ on := 29, ground := Ground.data }, { on := 28, ground := Ground.guard }], guard := some (28, false) }, { dst := some 160, op := Op.call { callee := Callee.builtin Builtin.len, args := #[Operand.tmp 159], argTypes := #[38] }, type := 3, pos := ps, after := #[{ on := 30, ground := Ground.data }, { on := 28, ground := Ground.guard }], guard := some (28, false) }, { dst := some 161, op := Op.binOp BinOp.gtr 3 (Operand.tmp 160) (Operand.const (Value.int IntKind.i64 2147483647)) 3, type := 4, pos := ps, after := #[{ on := 31, ground := Ground.data }, { on := 28, ground := Ground.guard }], guard := some (28, false) }, { dst := some 162, op := Op.pick (Operand.tmp 157) (Operand.const (Value.bool true)) (Operand.tmp 161), type := 4, pos := ps, after := #[{ on := 28, ground := Ground.data }, { on := 32, ground := Ground.data }], guard := none }] false).wp Tryz.prog (Exit.then K Q) ⟨List.toArray (x0 :: Value.pointer (some ⟨b1, 0, none⟩) :: x2 :: Value.pointer (some ⟨fb, 0, none⟩) :: x4 :: x5 :: x6 :: x7 :: x8 :: x9 :: x10 :: x11 :: x12 :: x13 :: x14 :: x15 :: x16 :: x17 :: x18 :: x19 :: x20 :: x21 :: x22 :: x23 :: x24 :: x25 :: x26 :: x27 :: x28 :: x29 :: x30 :: x31 :: x32 :: x33 :: x34 :: x35 :: x36 :: x37 :: x38 :: x39 :: x40 :: x41 :: x42 :: x43 :: x44 :: x45 :: x46 :: x47 :: x48 :: x49 :: x50 :: x51 :: x52 :: x53 :: x54 :: x55 :: x56 :: x57 :: x58 :: x59 :: x60 :: x61 :: x62 :: x63 :: x64 :: x65 :: x66 :: x67 :: x68 :: x69 :: x70 :: x71 :: x72 :: x73 :: x74 :: x75 :: x76 :: x77 :: x78 :: x79 :: x80 :: x81 :: x82 :: x83 :: x84 :: x85 :: x86 :: x87 :: x88 :: x89 :: x90 :: x91 :: x92 :: x93 :: x94 :: x95 :: x96 :: x97 :: x98 :: x99 :: x100 :: x101 :: x102 :: x103 :: x104 :: x105 :: x106 :: x107 :: x108 :: x109 :: x110 :: x111 :: x112 :: x113 :: x114 :: x115 :: x116 :: x117 :: x118 :: x119 :: x120 :: x121 :: x122 :: x123 :: x124 :: x125 :: x126 :: x127 :: x128 :: undef :: undef :: undef :: undef :: undef :: undef :: undef :: undef :: undef :: undef :: undef :: undef :: undef :: undef :: undef :: undef :: undef :: undef :: undef :: undef :: undef :: undef :: undef :: undef :: undef :: undef :: undef :: undef :: undef :: undef :: undef :: undef :: undef :: undef :: undef :: undef :: undef :: undef :: []), []⟩ W := by
  have HT := Lib.hid hT
  have HK := Lib.hid hK
  clear hT hK
  refine wp_region_lit ?_
  refine wpList_cutN 9 (fun a w => W = w ∧ ∃ (c : Bool) (u129 u130 u131 u132 u133 u134 u135 u136 : Value), c = (decide (v = 15) && decide (exp < 0)) ∧ a = ⟨List.toArray (x0 :: Value.pointer (some ⟨b1, 0, none⟩) :: x2 :: Value.pointer (some ⟨fb, 0, none⟩) :: x4 :: x5 :: x6 :: x7 :: x8 :: x9 :: x10 :: x11 :: x12 :: x13 :: x14 :: x15 :: x16 :: x17 :: x18 :: x19 :: x20 :: x21 :: x22 :: x23 :: x24 :: x25 :: x26 :: x27 :: x28 :: x29 :: x30 :: x31 :: x32 :: x33 :: x34 :: x35 :: x36 :: x37 :: x38 :: x39 :: x40 :: x41 :: x42 :: x43 :: x44 :: x45 :: x46 :: x47 :: x48 :: x49 :: x50 :: x51 :: x52 :: x53 :: x54 :: x55 :: x56 :: x57 :: x58 :: x59 :: x60 :: x61 :: x62 :: x63 :: x64 :: x65 :: x66 :: x67 :: x68 :: x69 :: x70 :: x71 :: x72 :: x73 :: x74 :: x75 :: x76 :: x77 :: x78 :: x79 :: x80 :: x81 :: x82 :: x83 :: x84 :: x85 :: x86 :: x87 :: x88 :: x89 :: x90 :: x91 :: x92 :: x93 :: x94 :: x95 :: x96 :: x97 :: x98 :: x99 :: x100 :: x101 :: x102 :: x103 :: x104 :: x105 :: x106 :: x107 :: x108 :: x109 :: x110 :: x111 :: x112 :: x113 :: x114 :: x115 :: x116 :: x117 :: x118 :: x119 :: x120 :: x121 :: x122 :: x123 :: x124 :: x125 :: x126 :: x127 :: x128 :: u129 :: u130 :: u131 :: u132 :: u133 :: u134 :: u135 :: u136 :: Value.bool c :: undef :: undef :: undef :: undef :: undef :: undef :: undef :: undef :: undef :: undef :: undef :: undef :: undef :: undef :: undef :: undef :: undef :: undef :: undef :: undef :: undef :: undef :: undef :: undef :: undef :: undef :: undef :: undef :: undef :: []), []⟩) ?_ ?_
  rotate_left 1
  · intro J K2 hJ hK2
    simp only [List.take_succ_cons, List.take_zero]
    clear HT HK
    by_cases hv : v = 15
    · by_cases he : exp < 0
      · have h2 : decide (exp < 0) = true := decide_eq_true he
        have e2 : (decide (v = 15) && decide (exp < 0)) = true := by simp [he, hv]
        rw [e2] at hJ
        subst hv
        clear e2
        go_wp2_with fail
        all_goals first | omega | exact Met.intro (hJ _ _ ⟨rfl, true, _, _, _, _, _, _, _, _, rfl, rfl⟩)
      · have h2 : decide (exp < 0) = false := decide_eq_false he
        have e2 : (decide (v = 15) && decide (exp < 0)) = false := by rw [h2, Bool.and_false]
        rw [e2] at hJ
        subst hv
        clear e2
        go_wp2_with fail
        all_goals first | omega | exact Met.intro (hJ _ _ ⟨rfl, false, _, _, _, _, _, _, _, _, rfl, rfl⟩)
    · have h1 : (v == 15) = false := by simpa using hv
      have e2 : (decide (v = 15) && decide (exp < 0)) = false := by simp [hv]
      rw [e2] at hJ
      clear e2
      go_wp2_with fail
      all_goals first | contradiction | exact Met.intro (hJ _ _ ⟨rfl, false, _, _, _, _, _, _, _, _, rfl, rfl⟩)
  rintro _ _ ⟨rfl, c0, u129, u130, u131, u132, u133, u134, u135, u136, hc0, rfl⟩
  simp only [List.drop_succ_cons, List.drop_zero]
  have HT2 := HT.out; rw [← hc0] at HT2; replace HT := Lib.hid HT2; clear HT2 hc0
  clear p0 p3 exp v
  refine wpList_cutN 9 (fun a w => W = w ∧ ∃ (c : Bool) (u129 u130 u131 u132 u133 u134 u135 u136 u137 u138 u139 u140 u141 u142 u143 u144 u145 : Value), c = (c0 || (nr && !re)) ∧ a = ⟨List.toArray (x0 :: Value.pointer (some ⟨b1, 0, none⟩) :: x2 :: Value.pointer (some ⟨fb, 0, none⟩) :: x4 :: x5 :: x6 :: x7 :: x8 :: x9 :: x10 :: x11 :: x12 :: x13 :: x14 :: x15 :: x16 :: x17 :: x18 :: x19 :: x20 :: x21 :: x22 :: x23 :: x24 :: x25 :: x26 :: x27 :: x28 :: x29 :: x30 :: x31 :: x32 :: x33 :: x34 :: x35 :: x36 :: x37 :: x38 :: x39 :: x40 :: x41 :: x42 :: x43 :: x44 :: x45 :: x46 :: x47 :: x48 :: x49 :: x50 :: x51 :: x52 :: x53 :: x54 :: x55 :: x56 :: x57 :: x58 :: x59 :: x60 :: x61 :: x62 :: x63 :: x64 :: x65 :: x66 :: x67 :: x68 :: x69 :: x70 :: x71 :: x72 :: x73 :: x74 :: x75 :: x76 :: x77 :: x78 :: x79 :: x80 :: x81 :: x82 :: x83 :: x84 :: x85 :: x86 :: x87 :: x88 :: x89 :: x90 :: x91 :: x92 :: x93 :: x94 :: x95 :: x96 :: x97 :: x98 :: x99 :: x100 :: x101 :: x102 :: x103 :: x104 :: x105 :: x106 :: x107 :: x108 :: x109 :: x110 :: x111 :: x112 :: x113 :: x114 :: x115 :: x116 :: x117 :: x118 :: x119 :: x120 :: x121 :: x122 :: x123 :: x124 :: x125 :: x126 :: x127 :: x128 :: u129 :: u130 :: u131 :: u132 :: u133 :: u134 :: u135 :: u136 :: u137 :: u138 :: u139 :: u140 :: u141 :: u142 :: u143 :: u144 :: u145 :: Value.bool c :: undef :: undef :: undef :: undef :: undef :: undef :: undef :: undef :: undef :: undef :: undef :: undef :: undef :: undef :: undef :: undef :: undef :: undef :: undef :: undef :: []), []⟩) ?_ ?_
  rotate_left 1
  · intro J K2 hJ hK2
    simp only [List.take_succ_cons, List.take_zero]
    clear HT HK
    cases c0 with
    | true =>
      go_wp2_with fail
      exact Met.intro (hJ _ _ ⟨rfl, true, _, _, _, _, _, _, _, _, _, _, _, _, _, _, _, _, _, rfl, rfl⟩)
    | false =>
      cases nr with
      | false =>
        go_wp2_with fail
        exact Met.intro (hJ _ _ ⟨rfl, false, _, _, _, _, _, _, _, _, _, _, _, _, _, _, _, _, _, rfl, rfl⟩)
      | true =>
        cases re with
        | true =>
          go_wp2_with fail
          exact Met.intro (hJ _ _ ⟨rfl, false, _, _, _, _, _, _, _, _, _, _, _, _, _, _, _, _, _, rfl, rfl⟩)
        | false =>
          go_wp2_with fail
          exact Met.intro (hJ _ _ ⟨rfl, true, _, _, _, _, _, _, _, _, _, _, _, _, _, _, _, _, _, rfl, rfl⟩)
  rintro _ _ ⟨rfl, c1, u129, u130, u131, u132, u133, u134, u135, u136, u137, u138, u139, u140, u141, u142, u143, u144, u145, hc1, rfl⟩
  simp only [List.drop_succ_cons, List.drop_zero]
  have HT2 := HT.out; rw [← hc1] at HT2; replace HT := Lib.hid HT2; clear HT2 hc1
  clear p7 r4 nr re c0
  refine wpList_cutN 11 (fun a w => W = w ∧ ∃ (c : Bool) (u129 u130 u131 u132 u133 u134 u135 u136 u137 u138 u139 u140 u141 u142 u143 u144 u145 u146 u147 u148 u149 u150 u151 u152 u153 u154 u155 u156 : Value), c = (c1 || (decide (0 < n) && !bl)) ∧ a = ⟨List.toArray (x0 :: Value.pointer (some ⟨b1, 0, none⟩) :: x2 :: Value.pointer (some ⟨fb, 0, none⟩) :: x4 :: x5 :: x6 :: x7 :: x8 :: x9 :: x10 :: x11 :: x12 :: x13 :: x14 :: x15 :: x16 :: x17 :: x18 :: x19 :: x20 :: x21 :: x22 :: x23 :: x24 :: x25 :: x26 :: x27 :: x28 :: x29 :: x30 :: x31 :: x32 :: x33 :: x34 :: x35 :: x36 :: x37 :: x38 :: x39 :: x40 :: x41 :: x42 :: x43 :: x44 :: x45 :: x46 :: x47 :: x48 :: x49 :: x50 :: x51 :: x52 :: x53 :: x54 :: x55 :: x56 :: x57 :: x58 :: x59 :: x60 :: x61 :: x62 :: x63 :: x64 :: x65 :: x66 :: x67 :: x68 :: x69 :: x70 :: x71 :: x72 :: x73 :: x74 :: x75 :: x76 :: x77 :: x78 :: x79 :: x80 :: x81 :: x82 :: x83 :: x84 :: x85 :: x86 :: x87 :: x88 :: x89 :: x90 :: x91 :: x92 :: x93 :: x94 :: x95 :: x96 :: x97 :: x98 :: x99 :: x100 :: x101 :: x102 :: x103 :: x104 :: x105 :: x106 :: x107 :: x108 :: x109 :: x110 :: x111 :: x112 :: x113 :: x114 :: x115 :: x116 :: x117 :: x118 :: x119 :: x120 :: x121 :: x122 :: x123 :: x124 :: x125 :: x126 :: x127 :: x128 :: u129 :: u130 :: u131 :: u132 :: u133 :: u134 :: u135 :: u136 :: u137 :: u138 :: u139 :: u140 :: u141 :: u142 :: u143 :: u144 :: u145 :: u146 :: u147 :: u148 :: u149 :: u150 :: u151 :: u152 :: u153 :: u154 :: u155 :: u156 :: Value.bool c :: undef :: undef :: undef :: undef :: undef :: undef :: undef :: undef :: undef :: []), []⟩) ?_ ?_
  rotate_left 1
  · intro J K2 hJ hK2
    simp only [List.take_succ_cons, List.take_zero]
    clear HT HK
    obtain ⟨nb, hnb⟩ : ∃ b, decide ((0 : Int) < (n : Int)) = b := ⟨_, rfl⟩
    have e1 : decide (0 < n) = nb := by rw [← hnb]; exact decide_eq_decide.2 (by omega)
    rw [e1] at hJ
    cases c1 with
    | true =>
      go_wp2_with fail
      exact Met.intro (hJ _ _ ⟨rfl, true, _, _, _, _, _, _, _, _, _, _, _, _, _, _, _, _, _, _, _, _, _, _, _, _, _, _, _, _, rfl, rfl⟩)
    | false =>
      cases nb with
      | false =>
        go_wp2_with fail
        exact Met.intro (hJ _ _ ⟨rfl, false, _, _, _, _, _, _, _, _, _, _, _, _, _, _, _, _, _, _, _, _, _, _, _, _, _, _, _, _, rfl, rfl⟩)
      | true =>
        cases bl with
        | true =>
          go_wp2_with fail
          exact Met.intro (hJ _ _ ⟨rfl, false, _, _, _, _, _, _, _, _, _, _, _, _, _, _, _, _, _, _, _, _, _, _, _, _, _, _, _, _, rfl, rfl⟩)
        | false =>
          go_wp2_with fail
          exact Met.intro (hJ _ _ ⟨rfl, true, _, _, _, _, _, _, _, _, _, _, _, _, _, _, _, _, _, _, _, _, _, _, _, _, _, _, _, _, rfl, rfl⟩)
  rintro _ _ ⟨rfl, c2, u129, u130, u131, u132, u133, u134, u135, u136, u137, u138, u139, u140, u141, u142, u143, u144, u145, u146, u147, u148, u149, u150, u151, u152, u153, u154, u155, u156, hc2, rfl⟩
  simp only [List.drop_succ_cons, List.drop_zero]
  have HT2 := HT.out; rw [← hc2] at HT2; replace HT := Lib.hid HT2; clear HT2 hc2
  clear r5 bl c1
  obtain ⟨nb, hnb⟩ : ∃ b, decide ((2147483647 : Int) < (n : Int)) = b := ⟨_, rfl⟩
  have e1 : decide (2147483647 < n) = nb := by rw [← hnb]; exact decide_eq_decide.2 (by omega)
  have HT2 := HT.out
  rw [e1] at HT2
  replace HT := Lib.hid HT2
  clear HT2
  cases c2 with
  | true =>
    go_wp2_with fail
    exact HK.out _ _ _ _ _ _ _ _ _ _ _ _ _ _ _ _ _ _ _ _ _ _ _ _ _ _ _ _ _ _ _ _ _ _ (by rw [← HT.out]; rfl)
  | false =>
    cases nb with
    | true =>
      go_wp2_with fail
      exact HK.out _ _ _ _ _ _ _ _ _ _ _ _ _ _ _ _ _ _ _ _ _ _ _ _ _ _ _ _ _ _ _ _ _ _ (by rw [← HT.out]; rfl)
    | false =>
      go_wp2_with fail
      exact HK.out _ _ _ _ _ _ _ _ _ _ _ _ _ _ _ _ _ _ _ _ _ _ _ _ _ _ _ _ _ _ _ _ _ _ (by rw [← HT.out]; rfl)
end Go.Proofs.YtobegepebochkaaGreatDoor
