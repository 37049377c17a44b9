import Derived.Test.YtobegepebochkaaGreatDoorRPbj
set_option linter.unusedVariables false
set_option linter.unusedSimpArgs false
set_option maxRecDepth 100000
set_option maxHeartbeats 16000000
namespace Go.Proofs.YtobegepebochkaaGreatDoor
open Go.RowKit
abbrev sqBg0 (p : String) : Oper := { dst := some 31, op := Op.move (Operand.tmp 7), type := 3, pos := p, after := #[], guard := none }
abbrev sqBg1 (p : String) : Oper := { dst := some 32, op := Op.move (Operand.tmp 6), type := 3, pos := p, after := #[], guard := none }
abbrev sqBg2 (p : String) : Oper := { dst := some 33, op := Op.binOp BinOp.lss 3 (Operand.tmp 31) (Operand.tmp 32) 3, type := 4, pos := p, after := #[{ on := 0, ground := Ground.data }, { on := 1, ground := Ground.data }], guard := none }
abbrev sqBg3 (p : String) : Oper := { dst := some 34, op := Op.move (Operand.tmp 33), type := 4, pos := p, after := #[{ on := 2, ground := Ground.data }], guard := none }
abbrev sqBg4 (p : String) : Oper := { dst := some 35, op := Op.move (Operand.tmp 1), type := 25, pos := p, after := #[{ on := 3, ground := Ground.guard }], guard := some (3, true) }
abbrev sqBg5 (p : String) : Oper := { dst := some 36, op := Op.move (Operand.tmp 5), type := 3, pos := p, after := #[{ on := 3, ground := Ground.guard }], guard := some (3, true) }
abbrev sqBg6 (p : String) : Oper := { dst := some 37, op := Op.indexAddr 25 (Operand.tmp 35) (Operand.tmp 36), type := 0, pos := p, after := #[{ on := 4, ground := Ground.data }, { on := 5, ground := Ground.data }, { on := 3, ground := Ground.guard }], guard := some (3, true) }
abbrev sqBg7 (p : String) : Oper := { dst := some 38, op := Op.load 36 (Operand.tmp 37), type := 36, pos := p, after := #[{ on := 6, ground := Ground.data }, { on := 3, ground := Ground.guard }], guard := some (3, true) }
abbrev sqBg8 (p : String) : Oper := { dst := some 39, op := Op.move (Operand.tmp 7), type := 3, pos := p, after := #[{ on := 3, ground := Ground.guard }], guard := some (3, true) }
abbrev sqBg9 (p : String) : Oper := { dst := some 40, op := Op.indexAddr 36 (Operand.tmp 38) (Operand.tmp 39), type := 0, pos := p, after := #[{ on := 7, ground := Ground.data }, { on := 8, ground := Ground.data }, { on := 3, ground := Ground.guard }], guard := some (3, true) }
abbrev sqBg10 (p : String) : Oper := { dst := some 41, op := Op.load 9 (Operand.tmp 40), type := 9, pos := p, after := #[{ on := 9, ground := Ground.data }, { on := 3, ground := Ground.guard }], guard := some (3, true) }
abbrev sqBg11 (p : String) : Oper := { dst := some 42, op := Op.move (Operand.tmp 5), type := 3, pos := p, after := #[{ on := 3, ground := Ground.guard }], guard := some (3, true) }
abbrev sqBg12 (p : String) : Oper := { dst := some 44, op := Op.binOp BinOp.neq 9 (Operand.tmp 41) (Operand.tmp 43) 9, type := 4, pos := p, after := #[{ on := 10, ground := Ground.data }, { on := 12, ground := Ground.data }, { on := 3, ground := Ground.guard }], guard := some (3, true) }
abbrev sqBg13 (p : String) : Oper := { dst := some 45, op := Op.move (Operand.tmp 44), type := 4, pos := p, after := #[{ on := 13, ground := Ground.data }, { on := 12, ground := Ground.chain }, { on := 3, ground := Ground.guard }], guard := some (3, true) }
abbrev sqBg14 (p : String) : Oper := { dst := some 46, op := Op.move (Operand.tmp 0), type := 23, pos := p, after := #[{ on := 14, ground := Ground.guard }], guard := some (14, false) }
abbrev sqBg15 (p : String) : Oper := { dst := some 47, op := Op.nilCheck (Operand.tmp 46), type := 0, pos := p, after := #[{ on := 15, ground := Ground.data }, { on := 14, ground := Ground.guard }], guard := some (14, false) }
abbrev sqBg16 (p : String) : Oper := { dst := some 48, op := Op.fieldAddr 31 (Operand.tmp 47) 8, type := 0, pos := p, after := #[{ on := 16, ground := Ground.data }, { on := 14, ground := Ground.guard }], guard := some (14, false) }
abbrev sqBg17 (p : String) : Oper := { dst := some 49, op := Op.load 25 (Operand.tmp 48), type := 25, pos := p, after := #[{ on := 17, ground := Ground.data }, { on := 14, ground := Ground.guard }], guard := some (14, false) }
abbrev sqBg18 (p : String) : Oper := { dst := some 50, op := Op.move (Operand.tmp 5), type := 3, pos := p, after := #[{ on := 14, ground := Ground.guard }], guard := some (14, false) }
abbrev sqBg19 (p : String) : Oper := { dst := some 51, op := Op.indexAddr 25 (Operand.tmp 49) (Operand.tmp 50), type := 0, pos := p, after := #[{ on := 18, ground := Ground.data }, { on := 19, ground := Ground.data }, { on := 14, ground := Ground.guard }], guard := some (14, false) }
abbrev sqBg20 (p : String) : Oper := { dst := some 52, op := Op.load 36 (Operand.tmp 51), type := 36, pos := p, after := #[{ on := 20, ground := Ground.data }, { on := 14, ground := Ground.guard }], guard := some (14, false) }
abbrev sqBg21 (p : String) : Oper := { dst := some 53, op := Op.move (Operand.tmp 7), type := 3, pos := p, after := #[{ on := 14, ground := Ground.guard }], guard := some (14, false) }
abbrev sqBg22 (p : String) : Oper := { dst := some 54, op := Op.indexAddr 36 (Operand.tmp 52) (Operand.tmp 53), type := 0, pos := p, after := #[{ on := 21, ground := Ground.data }, { on := 22, ground := Ground.data }, { on := 14, ground := Ground.guard }], guard := some (14, false) }
abbrev sqBg23 (p : String) : Oper := { dst := some 55, op := Op.load 9 (Operand.tmp 54), type := 9, pos := p, after := #[{ on := 23, ground := Ground.data }, { on := 14, ground := Ground.guard }], guard := some (14, false) }
abbrev sqBg24 (p : String) : Oper := { dst := some 56, op := Op.move (Operand.tmp 5), type := 3, pos := p, after := #[{ on := 14, ground := Ground.guard }], guard := some (14, false) }
abbrev sqBg25 (p : String) : Oper := { dst := some 58, op := Op.binOp BinOp.neq 9 (Operand.tmp 55) (Operand.tmp 57) 9, type := 4, pos := p, after := #[{ on := 24, ground := Ground.data }, { on := 26, ground := Ground.data }, { on := 14, ground := Ground.guard }], guard := some (14, false) }
abbrev sqBg26 (p : String) : Oper := { dst := some 59, op := Op.pick (Operand.tmp 45) (Operand.const (Value.bool true)) (Operand.tmp 58), type := 4, pos := p, after := #[{ on := 14, ground := Ground.data }, { on := 27, ground := Ground.data }, { on := 3, ground := Ground.guard }], guard := some (3, true) }
abbrev sqBg27 (p : String) : Oper := { dst := some 60, op := Op.pick (Operand.tmp 34) (Operand.tmp 59) (Operand.const (Value.bool false)), type := 4, pos := p, after := #[{ on := 3, ground := Ground.data }, { on := 28, ground := Ground.data }], guard := none }
abbrev sqBg28 (p : String) : Oper := { dst := some 61, op := Op.move (Operand.tmp 60), type := 4, pos := p, after := #[{ on := 29, ground := Ground.data }, { on := 26, ground := Ground.chain }], guard := none }
abbrev sqBg29 (p : String) : Oper := { dst := some 62, op := Op.move (Operand.tmp 7), type := 3, pos := p, after := #[{ on := 30, ground := Ground.guard }], guard := some (30, false) }
abbrev sqBg30 (p : String) : Oper := { dst := some 63, op := Op.move (Operand.tmp 6), type := 3, pos := p, after := #[{ on := 30, ground := Ground.guard }], guard := some (30, false) }
abbrev sqBg31 (p : String) : Oper := { dst := some 64, op := Op.binOp BinOp.geq 3 (Operand.tmp 62) (Operand.tmp 63) 3, type := 4, pos := p, after := #[{ on := 31, ground := Ground.data }, { on := 32, ground := Ground.data }, { on := 30, ground := Ground.guard }], guard := some (30, false) }
abbrev sqBg32 (p : String) : Oper := { dst := some 65, op := Op.move (Operand.tmp 64), type := 4, pos := p, after := #[{ on := 33, ground := Ground.data }, { on := 30, ground := Ground.chain }, { on := 30, ground := Ground.guard }], guard := some (30, false) }
abbrev sqBg33 (p : String) : Oper := { dst := some 66, op := Op.move (Operand.tmp 1), type := 25, pos := p, after := #[{ on := 34, ground := Ground.guard }], guard := some (34, true) }
abbrev sqBg34 (p : String) : Oper := { dst := some 67, op := Op.move (Operand.tmp 5), type := 3, pos := p, after := #[{ on := 34, ground := Ground.guard }], guard := some (34, true) }
abbrev sqBg35 (p : String) : Oper := { dst := some 68, op := Op.indexAddr 25 (Operand.tmp 66) (Operand.tmp 67), type := 0, pos := p, after := #[{ on := 35, ground := Ground.data }, { on := 36, ground := Ground.data }, { on := 34, ground := Ground.guard }], guard := some (34, true) }
abbrev sqBg36 (p : String) : Oper := { dst := some 69, op := Op.load 36 (Operand.tmp 68), type := 36, pos := p, after := #[{ on := 37, ground := Ground.data }, { on := 34, ground := Ground.guard }], guard := some (34, true) }
abbrev sqBg37 (p : String) : Oper := { dst := some 70, op := Op.move (Operand.tmp 7), type := 3, pos := p, after := #[{ on := 34, ground := Ground.guard }], guard := some (34, true) }
abbrev sqBg38 (p : String) : Oper := { dst := some 71, op := Op.indexAddr 36 (Operand.tmp 69) (Operand.tmp 70), type := 0, pos := p, after := #[{ on := 38, ground := Ground.data }, { on := 39, ground := Ground.data }, { on := 34, ground := Ground.guard }], guard := some (34, true) }
abbrev sqBg39 (p : String) : Oper := { dst := some 72, op := Op.load 9 (Operand.tmp 71), type := 9, pos := p, after := #[{ on := 40, ground := Ground.data }, { on := 34, ground := Ground.guard }], guard := some (34, true) }
abbrev sqBg40 (p : String) : Oper := { dst := some 73, op := Op.move (Operand.tmp 5), type := 3, pos := p, after := #[{ on := 34, ground := Ground.guard }], guard := some (34, true) }
abbrev sqBg41 (p : String) : Oper := { dst := some 74, op := Op.call { callee := Callee.value (Operand.func 110), args := #[Operand.tmp 73], argTypes := #[3] }, type := 9, pos := p, after := #[{ on := 42, ground := Ground.data }, { on := 34, ground := Ground.chain }, { on := 34, ground := Ground.guard }], guard := some (34, true) }
abbrev sqBg42 (p : String) : Oper := { dst := some 75, op := Op.binOp BinOp.add 9 (Operand.const (Value.string { data := #[43] })) (Operand.tmp 74) 9, type := 9, pos := p, after := #[{ on := 43, ground := Ground.data }, { on := 34, ground := Ground.guard }], guard := some (34, true) }
abbrev sqBg43 (p : String) : Oper := { dst := some 76, op := Op.binOp BinOp.neq 9 (Operand.tmp 72) (Operand.tmp 75) 9, type := 4, pos := p, after := #[{ on := 41, ground := Ground.data }, { on := 44, ground := Ground.data }, { on := 34, ground := Ground.guard }], guard := some (34, true) }
abbrev sqBg44 (p : String) : Oper := { dst := some 77, op := Op.pick (Operand.tmp 65) (Operand.tmp 76) (Operand.const (Value.bool false)), type := 4, pos := p, after := #[{ on := 34, ground := Ground.data }, { on := 45, ground := Ground.data }, { on := 30, ground := Ground.guard }], guard := some (30, false) }
abbrev sqBg45 (p : String) : Oper := { dst := some 78, op := Op.pick (Operand.tmp 61) (Operand.const (Value.bool true)) (Operand.tmp 77), type := 4, pos := p, after := #[{ on := 30, ground := Ground.data }, { on := 46, ground := Ground.data }], guard := none }
abbrev sqBg46 (p : String) : Oper := { dst := some 43, op := Op.call { callee := Callee.value (Operand.func 110), args := #[Operand.tmp 42], argTypes := #[3] }, type := 9, pos := p, after := #[{ on := 11, ground := Ground.data }, { on := 3, ground := Ground.chain }, { on := 3, ground := Ground.guard }], guard := some (3, true) }
abbrev sqBg47 (p : String) : Oper := { dst := some 57, op := Op.call { callee := Callee.value (Operand.func 110), args := #[Operand.tmp 56], argTypes := #[3] }, type := 9, pos := p, after := #[{ on := 25, ground := Ground.data }, { on := 14, ground := Ground.chain }, { on := 14, ground := Ground.guard }], guard := some (14, false) }
theorem rng1 {f : Nat -> List Value} (h : ∀ i, (f i).length = 1) {n k : Nat} (hk : k < n) : (rng n f)[k]? = (f k)[0]? := by
  have := rng_get h hk (Nat.zero_lt_one)
  simpa using this
def mkB (L : Nat -> Nat) (i k : Nat) : List Value := [if k < L i then .int .u8 ((i % 125 : Nat) : Int) else .int .u8 (125 + ((i % 125 : Nat) : Int))]
abbrev plus (i : Nat) : Value := .string ((⟨#[43]⟩ : ByteArray) ++ ⟨(wd i).toArray⟩)
def mkT (L : Nat -> Nat) (i k : Nat) : List Value := [if k < L i then sv (wd i) else plus i]
theorem mkB_lo {L : Nat -> Nat} {i k : Nat} (h : k < L i) : mkB L i k = [.int .u8 ((i % 125 : Nat) : Int)] := by simp [mkB, h]
theorem mkB_hi {L : Nat -> Nat} {i k : Nat} (h : ¬ k < L i) : mkB L i k = [.int .u8 (125 + ((i % 125 : Nat) : Int))] := by simp [mkB, h]
theorem mkT_lo {L : Nat -> Nat} {i k : Nat} (h : k < L i) : mkT L i k = [sv (wd i)] := by simp [mkT, h]
theorem mkT_hi {L : Nat -> Nat} {i k : Nat} (h : ¬ k < L i) : mkT L i k = [plus i] := by simp [mkT, h]
theorem look_108 {w : World} {bb : Nat} {b0 b1 b2 b3 t0 t1 t2 t3 s0 s1 s2 xv : Value} {n : Int} {K KX m : Nat} {V X : Nat -> Value} {L : Nat -> Nat} (h : Box w 31 bb (bkA b0 b1 b2 b3 t0 t1 t2 t3 s0 s1 s2 n)) (hr : w.ownsRow 0 38 1 b0 K (vsL V K)) (hx : w.ownsRow 0 38 1 xv KX (vsL X KX)) (hKX : KX <= K) (hK : K < 1000000) (hm : m <= 10003) (hL : ∀ i, i < KX -> L i <= 1000000)
    (hvs : ∀ i, i < KX -> w.ownsRow 0 5 1 (V i) (L i) (rng (L i) (mkB L i))) (hxs : ∀ i, i < KX -> w.ownsRow 0 5 1 (X i) (L i + m) (rng (L i + m) (mkB L i))) :
    Calls Tryz.prog 108 #[.pointer (some ⟨bb, 0, none⟩), xv] w fun y w' => y = .returned (.bool true) /\ w.grownBy w' none := by
  obtain ⟨hao, hcp, hdh, _, _, _, hposh⟩ := row_shape hr
  subst hdh
  obtain ⟨xao, xcp, hdx, _, _, _, hposx⟩ := row_shape hx
  subst hdx
  have c12 : w.cell? ⟨bb, 0, none⟩ = some (.slice hao K hcp) := h.cell 0
  go_enter Tryz.func108, Tryz.ntmps108
  go_wp2
  go_loopw [5] (fun v wr => ∃ i : Nat, i <= KX /\ v = .int .i64 i /\ w.grownBy wr none) (fun v _ => KX - (intOf v).toNat)
  case atStart => exact ⟨0, by omega, rfl, gb_refl _ _⟩
  case round =>
    obtain ⟨i, hi, rfl, hg⟩ := hrel
    by_cases hiK : i < KX
    . obtain ⟨gh, rfl⟩ := hposh (by omega)
      obtain ⟨gx, rfl⟩ := hposx (by omega)
      have hV := hvs i hiK
      have hX := hxs i hiK
      have d1 : w.cell? ⟨gh, i, none⟩ = some (V i) := row_cell hr i _ (vsL_get _ (by omega))
      have d2 : w.cell? ⟨gx, i, none⟩ = some (X i) := row_cell hx i _ (vsL_get _ hiK)
      have hLi := hL i hiK
      obtain ⟨va, vc, hVs, _, _, _, hposv⟩ := row_shape hV
      obtain ⟨xa, xc, hXs, _, _, _, hposxx⟩ := row_shape hX
      rw [hVs] at d1 hV
      rw [hXs] at d2 hX
      have hlo : ∀ k, k < L i -> mkB L i k = [.int .u8 ((i % 125 : Nat) : Int)] := fun k hk => mkB_lo hk
      have hhi : ∀ k, ¬ k < L i -> mkB L i k = [.int .u8 (125 + ((i % 125 : Nat) : Int))] := fun k hk => mkB_hi hk
      generalize mkB L i = mk at *
      generalize L i = n at *
      have hib : (i : Int) < K := by omega
      have hibx : (i : Int) < KX := by omega
      have c0 := gb_cellN hg c12
      have e1 := gb_cellN hg d1
      have e2 := gb_cellN hg d2
      clear hr hx hvs hxs hposh hposx hL h
      go_wp2
      go_loopw [7] (fun v wq => ∃ k : Nat, k <= n + m /\ v = .int .i64 k /\ w.grownBy wq none) (fun v _ => n + m - (intOf v).toNat)
      case atStart => exact ⟨0, by omega, rfl, hg⟩
      case round =>
        clear c0 e1 e2 hg
        obtain ⟨k, hk, rfl, hg⟩ := hrel
        have c0 := gb_cellN hg c12
        have e1 := gb_cellN hg d1
        have e2 := gb_cellN hg d2
        by_cases hkn : k < n + m
        . obtain ⟨g2, rfl⟩ := hposxx (by omega)
          have hkb : (k : Int) < n + m := by omega
          have q0 : (i : Int).tmod 125 = ((i % 125 : Nat) : Int) := by rw [Int.tmod_eq_emod_of_nonneg (by omega)]; rfl
          have q9 : i % 125 < 125 := Nat.mod_lt _ (by omega)
          generalize i % 125 = z at *
          have q1 : IntKind.i64.wrap (z : Int) = z := by rw [IntKind.wrap_i64]; omega
          have q2 : IntKind.u8.wrap (z : Int) = z := by rw [IntKind.wrap_u8]; omega
          have q3 : IntKind.i64.wrap (125 + (z : Int)) = 125 + z := by rw [IntKind.wrap_i64]; omega
          have q4 : IntKind.u8.wrap (125 + (z : Int)) = 125 + z := by rw [IntKind.wrap_u8]; omega
          have hxk : (rng (n + m) mk)[k]? = (mk k)[0]? := rng1 (fun k => by by_cases e : k < n; exact (by rw [hlo k e]; rfl); exact (by rw [hhi k e]; rfl)) hkn
          by_cases hkl : k < n
          . obtain ⟨g1, rfl⟩ := hposv (by omega)
            have hvk : (rng n mk)[k]? = (mk k)[0]? := rng1 (fun k => by by_cases e : k < n; exact (by rw [hlo k e]; rfl); exact (by rw [hhi k e]; rfl)) hkl
            rw [hlo k hkl] at hxk hvk
            have u1 := gb_cellN hg (row_cell hV k _ hvk)
            have u2 := gb_cellN hg (row_cell hX k _ hxk)
            have hlb : (k : Int) < n := by omega
            have hd1 : decide ((n : Int) <= (k : Int)) = false := by simp; omega
            have hd2 : decide (n <= k) = false := by simp; omega
            have hd3 : ¬ n <= k := by omega
            have hd4 : decide ((k : Int) < (n : Int)) = true := by simp; omega
            have hd5 : decide (k < n) = true := by simp; omega
            have HG : Hid _ := hg
            clear hV hX hposv hposxx hxk hvk hlo hhi hg c12 d1 d2
            go_wp2
            exact ⟨⟨k + 1, by omega, by go_num, HG.out⟩, by simp [intOf]; omega⟩
          . rw [hhi k hkl] at hxk
            have u2 := gb_cellN hg (row_cell hX k _ hxk)
            have hlb : ¬ (k : Int) < n := by omega
            have hd1 : decide ((n : Int) <= (k : Int)) = true := by simp; omega
            have hd2 : decide (n <= k) = true := by simp; omega
            have hd3 : n <= k := by omega
            have hd4 : decide ((k : Int) < (n : Int)) = false := by simp; omega
            have hd5 : decide (k < n) = false := by simp; omega
            have hlb2 : (n : Int) <= k := by omega
            have HG : Hid _ := hg
            clear hV hX hposv hposxx hxk hlo hhi hg c12 d1 d2
            go_wp2
            exact ⟨⟨k + 1, by omega, by go_num, HG.out⟩, by simp [intOf]; omega⟩
        . obtain rfl : k = n + m := by omega
          have HG : Hid _ := hg
          clear hV hX hposv hposxx hlo hhi hg c12 d1 d2
          go_wp2
          exact ⟨⟨i + 1, by omega, by go_num, HG.out⟩, by simp [intOf]; omega⟩
    . obtain rfl : i = KX := by omega
      clear hr hx hvs hxs hposh hposx hL h
      have HG : Hid _ := hg
      clear hg
      go_wp2
      go_ret
      exact ⟨rfl, HG.out⟩
theorem look_111 {w : World} {bb : Nat} {b0 b1 b2 b3 t0 t1 t2 t3 s0 s1 s2 xv : Value} {n : Int} {K KX m : Nat} {V X : Nat -> Value} {L : Nat -> Nat} (h : Box w 31 bb (bkA b0 b1 b2 b3 t0 t1 t2 t3 s0 s1 s2 n)) (hr : w.ownsRow 0 36 1 t0 K (vsL V K)) (hx : w.ownsRow 0 36 1 xv KX (vsL X KX)) (hKX : KX <= K) (hK : K < 1000000) (hm : m <= 10003) (hL : ∀ i, i < KX -> L i <= 1000000)
    (hvs : ∀ i, i < KX -> w.ownsRow 0 9 1 (V i) (L i) (rng (L i) (mkT L i))) (hxs : ∀ i, i < KX -> w.ownsRow 0 9 1 (X i) (L i + m) (rng (L i + m) (mkT L i))) :
    Calls Tryz.prog 111 #[.pointer (some ⟨bb, 0, none⟩), xv] w fun y w' => y = .returned (.bool true) /\ w.grownBy w' none := by
  obtain ⟨hao, hcp, hdh, _, _, _, hposh⟩ := row_shape hr
  subst hdh
  obtain ⟨xao, xcp, hdx, _, _, _, hposx⟩ := row_shape hx
  subst hdx
  have c12 : w.cell? ⟨bb, 8, none⟩ = some (.slice hao K hcp) := h.cell 8
  go_enter Tryz.func111, Tryz.ntmps111
  go_wp2
  go_loopw [5] (fun v wr => ∃ i : Nat, i <= KX /\ v = .int .i64 i /\ w.grownBy wr none) (fun v _ => KX - (intOf v).toNat)
  case atStart => exact ⟨0, by omega, rfl, gb_refl _ _⟩
  case round =>
    obtain ⟨i, hi, rfl, hg⟩ := hrel
    by_cases hiK : i < KX
    . obtain ⟨gh, rfl⟩ := hposh (by omega)
      obtain ⟨gx, rfl⟩ := hposx (by omega)
      have hV := hvs i hiK
      have hX := hxs i hiK
      have d1 : w.cell? ⟨gh, i, none⟩ = some (V i) := row_cell hr i _ (vsL_get _ (by omega))
      have d2 : w.cell? ⟨gx, i, none⟩ = some (X i) := row_cell hx i _ (vsL_get _ hiK)
      have hLi := hL i hiK
      obtain ⟨va, vc, hVs, _, _, _, hposv⟩ := row_shape hV
      obtain ⟨xa, xc, hXs, _, _, _, hposxx⟩ := row_shape hX
      rw [hVs] at d1 hV
      rw [hXs] at d2 hX
      have hlo : ∀ k, k < L i -> mkT L i k = [sv (wd i)] := fun k hk => mkT_lo hk
      have hhi : ∀ k, ¬ k < L i -> mkT L i k = [plus i] := fun k hk => mkT_hi hk
      generalize mkT L i = mk at *
      generalize L i = n at *
      have hib : (i : Int) < K := by omega
      have hibx : (i : Int) < KX := by omega
      have c0 := gb_cellN hg c12
      have e1 := gb_cellN hg d1
      have e2 := gb_cellN hg d2
      clear hr hx hvs hxs hposh hposx hL h
      go_wp2
      go_loopw [7] (fun v wq => ∃ k : Nat, k <= n + m /\ v = .int .i64 k /\ w.grownBy wq none) (fun v _ => n + m - (intOf v).toNat)
      case atStart => exact ⟨0, by omega, rfl, hg⟩
      case round =>
        clear c0 e1 e2 hg
        obtain ⟨k, hk, rfl, hg⟩ := hrel
        have c0 := gb_cellN hg c12
        have e1 := gb_cellN hg d1
        have e2 := gb_cellN hg d2
        by_cases hkn : k < n + m
        . obtain ⟨g2, rfl⟩ := hposxx (by omega)
          have hkb : (k : Int) < n + m := by omega
          have h110 := word_110 i (by omega)
          have l1 := wd_len i
          have hsz : (9223372036854775807 < 1 + (wd i).length) = False := by simp; omega
          have hsz2 : (9223372036854775807 < (wd i).length + 1) = False := by simp; omega
          have hxk : (rng (n + m) mk)[k]? = (mk k)[0]? := rng1 (fun k => by by_cases e : k < n; exact (by rw [hlo k e]; rfl); exact (by rw [hhi k e]; rfl)) hkn
          by_cases hkl : k < n
          . obtain ⟨g1, rfl⟩ := hposv (by omega)
            have hvk : (rng n mk)[k]? = (mk k)[0]? := rng1 (fun k => by by_cases e : k < n; exact (by rw [hlo k e]; rfl); exact (by rw [hhi k e]; rfl)) hkl
            rw [hlo k hkl] at hxk hvk
            have u1 := gb_cellN hg (row_cell hV k _ hvk)
            have u2 := gb_cellN hg (row_cell hX k _ hxk)
            have hlb : (k : Int) < n := by omega
            have hd1 : decide ((n : Int) <= (k : Int)) = false := by simp; omega
            have hd2 : decide (n <= k) = false := by simp; omega
            have hd3 : ¬ n <= k := by omega
            have hd4 : decide ((k : Int) < (n : Int)) = true := by simp; omega
            have hd5 : decide (k < n) = true := by simp; omega
            have HG : Hid _ := hg
            clear hV hX hposv hposxx hxk hvk hlo hhi hg c12 d1 d2
            go_wp2_with fail
            refine wp_region_noPanic ?_
            refine wp_region_held_drew (S := fun W : World => wr.grownBy W none) (by kernel_rfl) (gb_drew (gb_refl wr none)) (fun hgA => ?_)
            generalize wr.drew = W1 at hgA ⊢
            refine tkZ 0 (sqBg0 _) rfl (by intro W hSw; go_simp; (try (with_reducible rfl))) ?_
            try simp only [Act.put, pY]
            refine tkZ 1 (sqBg1 _) rfl (by intro W hSw; go_simp; (try (with_reducible rfl))) ?_
            try simp only [Act.put, pY]
            refine tkZ 2 (sqBg2 _) rfl (by intro W hSw; go_simp; (try (with_reducible rfl))) ?_
            try simp only [Act.put, pY]
            refine tkZ 3 (sqBg3 _) rfl (by intro W hSw; go_simp; (try (with_reducible rfl))) ?_
            try simp only [Act.put, pY]
            refine tkZ 4 (sqBg4 _) rfl (by intro W hSw; go_simp; (try (with_reducible rfl))) ?_
            try simp only [Act.put, pY]
            refine tkZ 5 (sqBg5 _) rfl (by intro W hSw; go_simp; (try (with_reducible rfl))) ?_
            try simp only [Act.put, pY]
            refine tkZ 6 (sqBg6 _) rfl (by intro W hSw; go_simp; (try (with_reducible rfl))) ?_
            try simp only [Act.put, pY]
            refine tkZ 7 (sqBg7 _) rfl (by intro W hSw; have x0 := gb_cellN hSw c0; have x1 := gb_cellN hSw e1; have x2 := gb_cellN hSw e2; have x3 := gb_cellN hSw u1; have x4 := gb_cellN hSw u2; go_simp; (try (with_reducible rfl))) ?_
            try simp only [Act.put, pY]
            refine tkZ 8 (sqBg8 _) rfl (by intro W hSw; go_simp; (try (with_reducible rfl))) ?_
            try simp only [Act.put, pY]
            refine tkZ 9 (sqBg9 _) rfl (by intro W hSw; go_simp; (try (with_reducible rfl))) ?_
            try simp only [Act.put, pY]
            refine tkZ 10 (sqBg10 _) rfl (by intro W hSw; have x0 := gb_cellN hSw c0; have x1 := gb_cellN hSw e1; have x2 := gb_cellN hSw e2; have x3 := gb_cellN hSw u1; have x4 := gb_cellN hSw u2; go_simp; (try (with_reducible rfl))) ?_
            try simp only [Act.put, pY]
            refine tkZ 11 (sqBg11 _) rfl (by intro W hSw; go_simp; (try (with_reducible rfl))) ?_
            try simp only [Act.put, pY]
            refine wpAnyH_ready (rs := [12]) (by kernel_rfl) (by simp) ?_
            refine (AllReadyH.cons rfl (fun K hK => ?_) AllReadyH.nil)
            go_simp
            (with_reducible refine (h110 W1).mono ?_)
            rintro e W2 ⟨rfl, hgn⟩
            have hgB := gb_trans hgA hgn
            clear hgn
            refine hK.out _ _ hgB (fun hS => ?_)
            clear hK K hS
            try simp only [Act.put, pY]
            refine tkZ 13 (sqBg12 _) rfl (by intro W hSw; go_simp; (try (with_reducible rfl))) ?_
            try simp only [Act.put, pY]
            refine tkZ 14 (sqBg13 _) rfl (by intro W hSw; go_simp; (try (with_reducible rfl))) ?_
            try simp only [Act.put, pY]
            refine tkZ 15 (sqBg14 _) rfl (by intro W hSw; go_simp; (try (with_reducible rfl))) ?_
            try simp only [Act.put, pY]
            refine tkZ 16 (sqBg15 _) rfl (by intro W hSw; go_simp; (try (with_reducible rfl))) ?_
            try simp only [Act.put, pY]
            refine tkZ 17 (sqBg16 _) rfl (by intro W hSw; go_simp; (try (with_reducible rfl))) ?_
            try simp only [Act.put, pY]
            refine tkZ 18 (sqBg17 _) rfl (by intro W hSw; have x0 := gb_cellN hSw c0; have x1 := gb_cellN hSw e1; have x2 := gb_cellN hSw e2; have x3 := gb_cellN hSw u1; have x4 := gb_cellN hSw u2; go_simp; (try (with_reducible rfl))) ?_
            try simp only [Act.put, pY]
            refine tkZ 19 (sqBg18 _) rfl (by intro W hSw; go_simp; (try (with_reducible rfl))) ?_
            try simp only [Act.put, pY]
            refine tkZ 20 (sqBg19 _) rfl (by intro W hSw; go_simp; (try (with_reducible rfl))) ?_
            try simp only [Act.put, pY]
            refine tkZ 21 (sqBg20 _) rfl (by intro W hSw; have x0 := gb_cellN hSw c0; have x1 := gb_cellN hSw e1; have x2 := gb_cellN hSw e2; have x3 := gb_cellN hSw u1; have x4 := gb_cellN hSw u2; go_simp; (try (with_reducible rfl))) ?_
            try simp only [Act.put, pY]
            refine tkZ 22 (sqBg21 _) rfl (by intro W hSw; go_simp; (try (with_reducible rfl))) ?_
            try simp only [Act.put, pY]
            refine tkZ 23 (sqBg22 _) rfl (by intro W hSw; go_simp; (try (with_reducible rfl))) ?_
            try simp only [Act.put, pY]
            refine tkZ 24 (sqBg23 _) rfl (by intro W hSw; have x0 := gb_cellN hSw c0; have x1 := gb_cellN hSw e1; have x2 := gb_cellN hSw e2; have x3 := gb_cellN hSw u1; have x4 := gb_cellN hSw u2; go_simp; (try (with_reducible rfl))) ?_
            try simp only [Act.put, pY]
            refine tkZ 25 (sqBg24 _) rfl (by intro W hSw; go_simp; (try (with_reducible rfl))) ?_
            try simp only [Act.put, pY]
            refine wpAnyH_ready (rs := [26]) (by kernel_rfl) (by simp) ?_
            refine (AllReadyH.cons rfl (fun K hK => ?_) AllReadyH.nil)
            go_simp
            (with_reducible refine (h110 W2).mono ?_)
            rintro e W3 ⟨rfl, hgn⟩
            have hgC := gb_trans hgB hgn
            clear hgn
            refine hK.out _ _ hgC (fun hS => ?_)
            clear hK K hS
            try simp only [Act.put, pY]
            refine tkZ 27 (sqBg25 _) rfl (by intro W hSw; go_simp; (try (with_reducible rfl))) ?_
            try simp only [Act.put, pY]
            refine tkZ 28 (sqBg26 _) rfl (by intro W hSw; go_simp; (try (with_reducible rfl))) ?_
            try simp only [Act.put, pY]
            refine tkZ 29 (sqBg27 _) rfl (by intro W hSw; go_simp; (try (with_reducible rfl))) ?_
            try simp only [Act.put, pY]
            refine tkZ 30 (sqBg28 _) rfl (by intro W hSw; go_simp; (try (with_reducible rfl))) ?_
            try simp only [Act.put, pY]
            refine tkZ 31 (sqBg29 _) rfl (by intro W hSw; go_simp; (try (with_reducible rfl))) ?_
            try simp only [Act.put, pY]
            refine tkZ 32 (sqBg30 _) rfl (by intro W hSw; go_simp; (try (with_reducible rfl))) ?_
            try simp only [Act.put, pY]
            refine tkZ 33 (sqBg31 _) rfl (by intro W hSw; go_simp; (try (with_reducible rfl))) ?_
            try simp only [Act.put, pY]
            refine tkZ 34 (sqBg32 _) rfl (by intro W hSw; go_simp; (try (with_reducible rfl))) ?_
            try simp only [Act.put, pY]
            refine tkU 35 (sqBg33 _) rfl ?_
            try simp only [Act.put, pY]
            refine tkU 36 (sqBg34 _) rfl ?_
            try simp only [Act.put, pY]
            refine tkU 37 (sqBg35 _) rfl ?_
            try simp only [Act.put, pY]
            refine tkU 38 (sqBg36 _) rfl ?_
            try simp only [Act.put, pY]
            refine tkU 39 (sqBg37 _) rfl ?_
            try simp only [Act.put, pY]
            refine tkU 40 (sqBg38 _) rfl ?_
            try simp only [Act.put, pY]
            refine tkU 41 (sqBg39 _) rfl ?_
            try simp only [Act.put, pY]
            refine tkU 42 (sqBg40 _) rfl ?_
            try simp only [Act.put, pY]
            refine tkU 43 (sqBg41 _) rfl ?_
            try simp only [Act.put, pY]
            refine tkU 44 (sqBg42 _) rfl ?_
            try simp only [Act.put, pY]
            refine tkU 45 (sqBg43 _) rfl ?_
            try simp only [Act.put, pY]
            refine tkZ 46 (sqBg44 _) rfl (by intro W hSw; go_simp; (try (with_reducible rfl))) ?_
            try simp only [Act.put, pY]
            refine tkZ 47 (sqBg45 _) rfl (by intro W hSw; go_simp; (try (with_reducible rfl))) ?_
            try simp only [Act.put, pY]
            refine wpAnyH_done (by kernel_rfl) ?_ _
            refine NoPanic.normal ?_
            go_wp2_with fail
            exact ⟨⟨k + 1, by omega, by go_num, gb_trans HG.out hgC⟩, by simp [intOf]; omega⟩
          . rw [hhi k hkl] at hxk
            have u2 := gb_cellN hg (row_cell hX k _ hxk)
            have hlb : ¬ (k : Int) < n := by omega
            have hd1 : decide ((n : Int) <= (k : Int)) = true := by simp; omega
            have hd2 : decide (n <= k) = true := by simp; omega
            have hd3 : n <= k := by omega
            have hd4 : decide ((k : Int) < (n : Int)) = false := by simp; omega
            have hd5 : decide (k < n) = false := by simp; omega
            have hlb2 : (n : Int) <= k := by omega
            have HG : Hid _ := hg
            clear hV hX hposv hposxx hxk hlo hhi hg c12 d1 d2
            go_wp2_with fail
            refine wp_region_noPanic ?_
            refine wp_region_held_drew (S := fun W : World => wr.grownBy W none) (by kernel_rfl) (gb_drew (gb_refl wr none)) (fun hgA => ?_)
            generalize wr.drew = W1 at hgA ⊢
            refine tkZ 0 (sqBg0 _) rfl (by intro W hSw; go_simp; (try (with_reducible rfl))) ?_
            try simp only [Act.put, pY]
            refine tkZ 1 (sqBg1 _) rfl (by intro W hSw; go_simp; (try (with_reducible rfl))) ?_
            try simp only [Act.put, pY]
            refine tkZ 2 (sqBg2 _) rfl (by intro W hSw; go_simp; (try (with_reducible rfl))) ?_
            try simp only [Act.put, pY]
            refine tkZ 3 (sqBg3 _) rfl (by intro W hSw; go_simp; (try (with_reducible rfl))) ?_
            try simp only [Act.put, pY]
            refine tkU 4 (sqBg4 _) rfl ?_
            try simp only [Act.put, pY]
            refine tkU 5 (sqBg5 _) rfl ?_
            try simp only [Act.put, pY]
            refine tkU 6 (sqBg6 _) rfl ?_
            try simp only [Act.put, pY]
            refine tkU 7 (sqBg7 _) rfl ?_
            try simp only [Act.put, pY]
            refine tkU 8 (sqBg8 _) rfl ?_
            try simp only [Act.put, pY]
            refine tkU 9 (sqBg9 _) rfl ?_
            try simp only [Act.put, pY]
            refine tkU 10 (sqBg10 _) rfl ?_
            try simp only [Act.put, pY]
            refine tkU 11 (sqBg11 _) rfl ?_
            try simp only [Act.put, pY]
            refine tkU 12 (sqBg46 _) rfl ?_
            try simp only [Act.put, pY]
            refine tkU 13 (sqBg12 _) rfl ?_
            try simp only [Act.put, pY]
            refine tkU 14 (sqBg13 _) rfl ?_
            try simp only [Act.put, pY]
            refine tkU 15 (sqBg14 _) rfl ?_
            try simp only [Act.put, pY]
            refine tkU 16 (sqBg15 _) rfl ?_
            try simp only [Act.put, pY]
            refine tkU 17 (sqBg16 _) rfl ?_
            try simp only [Act.put, pY]
            refine tkU 18 (sqBg17 _) rfl ?_
            try simp only [Act.put, pY]
            refine tkU 19 (sqBg18 _) rfl ?_
            try simp only [Act.put, pY]
            refine tkU 20 (sqBg19 _) rfl ?_
            try simp only [Act.put, pY]
            refine tkU 21 (sqBg20 _) rfl ?_
            try simp only [Act.put, pY]
            refine tkU 22 (sqBg21 _) rfl ?_
            try simp only [Act.put, pY]
            refine tkU 23 (sqBg22 _) rfl ?_
            try simp only [Act.put, pY]
            refine tkU 24 (sqBg23 _) rfl ?_
            try simp only [Act.put, pY]
            refine tkU 25 (sqBg24 _) rfl ?_
            try simp only [Act.put, pY]
            refine tkU 26 (sqBg47 _) rfl ?_
            try simp only [Act.put, pY]
            refine tkU 27 (sqBg25 _) rfl ?_
            try simp only [Act.put, pY]
            refine tkU 28 (sqBg26 _) rfl ?_
            try simp only [Act.put, pY]
            refine tkZ 29 (sqBg27 _) rfl (by intro W hSw; go_simp; (try (with_reducible rfl))) ?_
            try simp only [Act.put, pY]
            refine tkZ 30 (sqBg28 _) rfl (by intro W hSw; go_simp; (try (with_reducible rfl))) ?_
            try simp only [Act.put, pY]
            refine tkZ 31 (sqBg29 _) rfl (by intro W hSw; go_simp; (try (with_reducible rfl))) ?_
            try simp only [Act.put, pY]
            refine tkZ 32 (sqBg30 _) rfl (by intro W hSw; go_simp; (try (with_reducible rfl))) ?_
            try simp only [Act.put, pY]
            refine tkZ 33 (sqBg31 _) rfl (by intro W hSw; go_simp; (try (with_reducible rfl))) ?_
            try simp only [Act.put, pY]
            refine tkZ 34 (sqBg32 _) rfl (by intro W hSw; go_simp; (try (with_reducible rfl))) ?_
            try simp only [Act.put, pY]
            refine tkZ 35 (sqBg33 _) rfl (by intro W hSw; go_simp; (try (with_reducible rfl))) ?_
            try simp only [Act.put, pY]
            refine tkZ 36 (sqBg34 _) rfl (by intro W hSw; go_simp; (try (with_reducible rfl))) ?_
            try simp only [Act.put, pY]
            refine tkZ 37 (sqBg35 _) rfl (by intro W hSw; go_simp; (try (with_reducible rfl))) ?_
            try simp only [Act.put, pY]
            refine tkZ 38 (sqBg36 _) rfl (by intro W hSw; have x0 := gb_cellN hSw c0; have x1 := gb_cellN hSw e1; have x2 := gb_cellN hSw e2; have x4 := gb_cellN hSw u2; go_simp; (try (with_reducible rfl))) ?_
            try simp only [Act.put, pY]
            refine tkZ 39 (sqBg37 _) rfl (by intro W hSw; go_simp; (try (with_reducible rfl))) ?_
            try simp only [Act.put, pY]
            refine tkZ 40 (sqBg38 _) rfl (by intro W hSw; go_simp; (try (with_reducible rfl))) ?_
            try simp only [Act.put, pY]
            refine tkZ 41 (sqBg39 _) rfl (by intro W hSw; have x0 := gb_cellN hSw c0; have x1 := gb_cellN hSw e1; have x2 := gb_cellN hSw e2; have x4 := gb_cellN hSw u2; go_simp; (try (with_reducible rfl))) ?_
            try simp only [Act.put, pY]
            refine tkZ 42 (sqBg40 _) rfl (by intro W hSw; go_simp; (try (with_reducible rfl))) ?_
            try simp only [Act.put, pY]
            refine wpAnyH_ready (rs := [43]) (by kernel_rfl) (by simp) ?_
            refine (AllReadyH.cons rfl (fun K hK => ?_) AllReadyH.nil)
            go_simp
            (with_reducible refine (h110 W1).mono ?_)
            rintro e W2 ⟨rfl, hgn⟩
            have hgB := gb_trans hgA hgn
            clear hgn
            refine hK.out _ _ hgB (fun hS => ?_)
            clear hK K hS
            try simp only [Act.put, pY]
            refine tkZ 44 (sqBg42 _) rfl (by intro W hSw; go_simp; (try (with_reducible rfl))) ?_
            try simp only [Act.put, pY]
            refine tkZ 45 (sqBg43 _) rfl (by intro W hSw; go_simp; (try (with_reducible rfl))) ?_
            try simp only [Act.put, pY]
            refine tkZ 46 (sqBg44 _) rfl (by intro W hSw; go_simp; (try (with_reducible rfl))) ?_
            try simp only [Act.put, pY]
            refine tkZ 47 (sqBg45 _) rfl (by intro W hSw; go_simp; (try (with_reducible rfl))) ?_
            try simp only [Act.put, pY]
            refine wpAnyH_done (by kernel_rfl) ?_ _
            refine NoPanic.normal ?_
            go_wp2_with fail
            exact ⟨⟨k + 1, by omega, by go_num, gb_trans HG.out hgB⟩, by simp [intOf]; omega⟩
        . obtain rfl : k = n + m := by omega
          have HG : Hid _ := hg
          clear hV hX hposv hposxx hlo hhi hg c12 d1 d2
          go_wp2
          exact ⟨⟨i + 1, by omega, by go_num, HG.out⟩, by simp [intOf]; omega⟩
    . obtain rfl : i = KX := by omega
      clear hr hx hvs hxs hposh hposx hL h
      have HG : Hid _ := hg
      clear hg
      go_wp2
      go_ret
      exact ⟨rfl, HG.out⟩
end Go.Proofs.YtobegepebochkaaGreatDoor
