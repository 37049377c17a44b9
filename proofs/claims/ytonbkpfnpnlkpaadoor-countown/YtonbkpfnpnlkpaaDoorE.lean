/-
  Texts and flags: what an answer's code is, which flags there are.
-/
import Derived.Lib.Strings
import Derived.Lib.Walk
import Derived.Lib.Bytealg
import Derived.Test.YtonbkpfnpnlkpaaDoorD
namespace Go.Proofs.YtonbkpfnpnlkpaaDoor
open Go.RowKit
set_option linter.unusedVariables false
set_option linter.unusedSimpArgs false
attribute [local go_sem] Oper.semAt_some

abbrev Bs := List UInt8
/-- A text as a value. -/
abbrev sv (l : Bs) : Value := .string ⟨l.toArray⟩
structure Fl where
  letter : UInt8
  arg : Bs
  has : Bool
abbrev flV (f : Fl) : Value := .agg #[.int .u8 f.letter.toNat, sv f.arg, .bool f.has]
/-- What stands ahead of the first blank. -/
def tw (l : Bs) : Bs := l.takeWhile (fun c => c != 32)
theorem tw_none : ∀ (l : Bs), Lib.indexByte l 32 = -1 → tw l = l
  | [], _ => rfl
  | b :: t, h => by
    simp only [Lib.indexByte] at h
    by_cases hb : b = 32
    · simp [hb] at h
    · have h2 := Lib.indexByte_ge t 32
      simp only [beq_iff_eq, hb, if_false] at h
      split at h
      · rename_i h3
        have e := tw_none t h3
        simp only [tw] at e ⊢
        simp [hb, e]
      · rename_i h3; omega
theorem tw_some : ∀ (l : Bs) (i : Nat), Lib.indexByte l 32 = (i : Int) → i < l.length ∧ tw l = l.take i
  | [], i, h => by simp [Lib.indexByte] at h
  | b :: t, i, h => by
    simp only [Lib.indexByte] at h
    by_cases hb : b = 32
    · simp [hb] at h
      subst hb
      have : i = 0 := by omega
      subst this
      simp [tw]
    · have h2 := Lib.indexByte_ge t 32
      simp only [beq_iff_eq, hb, if_false] at h
      split at h
      · omega
      · rename_i h3
        obtain ⟨j, hj⟩ : ∃ j : Nat, Lib.indexByte t 32 = (j : Int) := ⟨(Lib.indexByte t 32).toNat, by omega⟩
        obtain ⟨h4, h5⟩ := tw_some t j hj
        have : i = j + 1 := by omega
        subst this
        refine ⟨by simp; omega, ?_⟩
        simp only [tw] at h5 ⊢
        simp [hb, h5]
theorem ext_take (l : Bs) (i : Nat) : (ByteArray.mk l.toArray).extract 0 i = ⟨(l.take i).toArray⟩ := by
  apply ByteArray.ext
  simp [ByteArray.data_extract]
theorem ext_drop (l : Bs) (i : Nat) : (ByteArray.mk l.toArray).extract i l.length = ⟨(l.drop i).toArray⟩ := by
  apply ByteArray.ext
  simp only [ByteArray.data_extract, List.extract_toArray, List.extract_eq_take_drop]
  rw [List.take_of_length_le (by simp)]
set_option maxRecDepth 100000 in
set_option maxHeartbeats 1000000 in
theorem indexB_109 (s : ByteArray) (c : Int) (w : World) :
    Calls Tryd.prog 109 #[.string s, .int .u8 c] w fun e w' => e = .returned (.int .i64 (Lib.indexByte s.data.toList c.toNat.toUInt8)) ∧ w' = w := by
  go_enter Tryd.func109, Tryd.ntmps109
  go_wp2
  rw [run_callFunc_extern Tryd.func113 (by kernel_rfl) (by kernel_rfl) (by kernel_rfl) (e := Extern.BytealgIndexByte.indexByte) (by kernel_rfl), Lib.run_indexByteString]
  simp only [Result.andThen]
  rw [Oper.upon_value]
  go_wp2
  go_ret
  exact ⟨rfl, rfl⟩
set_option maxRecDepth 100000 in
set_option maxHeartbeats 4000000 in
theorem index_108 (l : Bs) (w : World) :
    Calls Tryd.prog 108 #[sv l, .string ⟨#[32]⟩] w fun e w' => e = .returned (.int .i64 (Lib.indexByte l 32)) ∧ w' = w := by
  have h41 := fun W => indexB_109 ⟨l.toArray⟩ 32 W
  go_enter Tryd.func108, Tryd.ntmps108
  go_wp2_with (go_at_call 109; refine (h41 _).mono ?_; rintro e w' ⟨rfl, rfl⟩)
  · rename_i h
    have e : l = [32] := (beq_iff_eq.1 h).symm
    subst e
    go_ret
    exact ⟨rfl, rfl⟩
  · go_ret
    exact ⟨rfl, rfl⟩
set_option maxRecDepth 100000 in
set_option maxHeartbeats 4000000 in
theorem cut_106 (l : Bs) (hl : l.length ≤ 4611686018427387904) (w : World) :
    Calls Tryd.prog 106 #[sv l, .string ⟨#[32]⟩] w fun e w' => e = .returned (.tuple #[sv (tw l), sv (l.drop ((tw l).length + 1)), .bool (decide ((tw l).length < l.length))]) ∧ w.grownBy w' none := by
  have h8 := fun W => index_108 l W
  have hge := Lib.indexByte_ge l 32
  rcases (by omega : Lib.indexByte l 32 = -1 ∨ 0 ≤ Lib.indexByte l 32) with hi | hi
  · rw [tw_none l hi]
    rw [hi] at h8
    clear hi hge
    go_enter Tryd.func106, Tryd.ntmps106
    go_wp2_with (go_at_call 108; (with_reducible refine (h8 _).mono ?_); rintro e w1 ⟨rfl, rfl⟩)
    go_ret3
    refine ⟨?_, gb_refl _ _⟩
    simp
  · obtain ⟨i, hj⟩ : ∃ j : Nat, Lib.indexByte l 32 = (j : Int) := ⟨(Lib.indexByte l 32).toNat, by omega⟩
    obtain ⟨hlt, he⟩ := tw_some l i hj
    rw [he, List.length_take, show min i l.length = i by omega]
    rw [hj] at h8
    clear hi hj hge he
    have e1 := ext_take l i
    have e2 := ext_drop l (i + 1)
    have d1 : (i : Int) + 1 ≤ l.length := by omega
    have d2 : (i : Int) ≤ l.length := by omega
    go_enter Tryd.func106, Tryd.ntmps106
    go_wp2_with (go_at_call 108; (with_reducible refine (h8 _).mono ?_); rintro e w1 ⟨rfl, rfl⟩)
    go_region
    go_wp2
    go_ret3
    refine ⟨?_, gb_drew (gb_refl _ _)⟩
    simp [hlt]
set_option maxRecDepth 100000 in
set_option maxHeartbeats 4000000 in
theorem cut_104 (l : Bs) (hl : l.length ≤ 4611686018427387904) (w : World) :
    Calls Tryd.prog 104 #[sv l, .string ⟨#[32]⟩] w fun e w' => e = .returned (.tuple #[sv (tw l), sv (l.drop ((tw l).length + 1)), .bool (decide ((tw l).length < l.length))]) ∧ w.grownBy w' none := by
  have h := fun W => cut_106 l hl W
  go_enter Tryd.func104, Tryd.ntmps104
  go_wp2_with (go_at_call 106; (with_reducible refine (h _).mono ?_); rintro e w1 ⟨rfl, hg⟩)
  go_ret3
  exact ⟨rfl, hg⟩
/-- An answer's cells. -/
structure An where
  kind : Int
  ent : Value
  num : Value
  text : Bs
  stats : Value
abbrev anV (a : An) : Value := .agg #[.int .i64 a.kind, a.ent, a.num, sv a.text, a.stats]
structure An.Ok (a : An) : Prop where
  ent : ∃ x n c, a.ent = .slice x n c
  num : ∃ n, a.num = .int .u64 n
  stats : ∃ x n c, a.stats = .slice x n c
  len : a.text.length ≤ 4611686018427387904
def code (a : An) : Bs := if a.kind = 15 then tw a.text else []
set_option maxRecDepth 100000 in
set_option maxHeartbeats 4000000 in
theorem codeOf_93 (a : An) (ha : a.Ok) (w : World) :
    Calls Tryd.prog 93 #[anV a] w fun e w' => e = .returned (sv (code a)) ∧ w.grownBy w' none := by
  obtain ⟨k, en, nu, tx, st⟩ := a
  obtain ⟨⟨x1, n1, c1, e1⟩, ⟨n2, e2⟩, ⟨x3, n3, c3, e3⟩, hl⟩ := ha
  simp only at e1 e2 e3 hl
  subst e1 e2 e3
  have h := fun W => cut_104 tx hl W
  by_cases hk : k = 15
  · subst hk
    simp only [code, if_true]
    go_enter Tryd.func93, Tryd.ntmps93
    go_wp2_with (go_at_call 104; (with_reducible refine (h _).mono ?_); rintro e w1 ⟨rfl, hg⟩)
    go_ret
    exact ⟨rfl, gb_trans (World.grownBy_alloc w _ none) hg⟩
  · simp only [code, hk, if_false]
    go_enter Tryd.func93, Tryd.ntmps93
    go_wp2
    go_ret
    exact ⟨rfl, World.grownBy_alloc w _ none⟩
set_option maxRecDepth 100000 in
set_option maxHeartbeats 4000000 in
theorem pre_107 (s : Bs) (hs : s.length ≤ 4611686018427387904) (c : UInt8) (w : World) :
    Calls Tryd.prog 107 #[sv s, .string ⟨#[c]⟩] w fun e w' => e = .returned (.bool (s.head? == some c)) ∧ w' = w := by
  match s, hs with
  | [], _ =>
    go_enter Tryd.func107, Tryd.ntmps107
    go_wp2
    go_ret
    exact ⟨rfl, rfl⟩
  | a :: t, hs =>
    have e1 := ext_take (a :: t) 1
    simp only [List.take_succ_cons, List.take_zero] at e1
    simp only [List.length_cons] at hs
    have d1 : (1 : Int) ≤ (t.length : Int) + 1 := by omega
    go_enter Tryd.func107, Tryd.ntmps107
    go_wp2
    go_ret
    refine ⟨?_, rfl⟩
    simp
set_option maxRecDepth 100000 in
set_option maxHeartbeats 4000000 in
theorem pre_105 (s : Bs) (hs : s.length ≤ 4611686018427387904) (c : UInt8) (w : World) :
    Calls Tryd.prog 105 #[sv s, .string ⟨#[c]⟩] w fun e w' => e = .returned (.bool (s.head? == some c)) ∧ w' = w := by
  have h := fun W => pre_107 s hs c W
  go_enter Tryd.func105, Tryd.ntmps105
  go_wp2_with (go_at_call 107; (with_reducible refine (h _).mono ?_); rintro e w1 ⟨rfl, rfl⟩)
  go_ret
  exact ⟨rfl, rfl⟩
/-- A row of flags in memory. -/
def Flgs (w : World) (v : Value) (l : List Fl) : Prop := ∃ ao c, v = .slice ao l.length c ∧ l.length ≤ c ∧ c ≤ maxLen ∧ (∀ f ∈ l, f.arg.length ≤ 4611686018427387904) ∧
  (∀ i f, l[i]? = some f → ∃ g o, ao = some ⟨g, o, none⟩ ∧ w.cell? ⟨g, o + i * 3, none⟩ = some (.int .u8 f.letter.toNat) ∧ w.cell? ⟨g, o + i * 3 + 1, none⟩ = some (sv f.arg) ∧ w.cell? ⟨g, o + i * 3 + 2, none⟩ = some (.bool f.has))
theorem Kp.cell {F : Nat → Prop} {w w' : World} (hk : Kp F w w') {g i : Nat} {v : Value} (h : w.cell? ⟨g, i, none⟩ = some v) (hn : ¬ F g) : w'.cell? ⟨g, i, none⟩ = some v := by
  have hlt := World.block_lt_of_cell? _ _ h
  have h2 := hk.block g hlt hn
  simpa [World.cell?, h2] using h
theorem Flgs.kept {w w' : World} {v : Value} {l : List Fl} (h : Flgs w v l) {F : Nat → Prop} (hk : Kp F w w') (ho : Off v F) : Flgs w' v l := by
  obtain ⟨ao, c, rfl, hlc, hc, ha, hx⟩ := h
  refine ⟨ao, c, rfl, hlc, hc, ha, fun i f hi => ?_⟩
  obtain ⟨g, o, rfl, h1, h2, h3⟩ := hx i f hi
  have hn := ho _ _ _ rfl (by have := (List.getElem?_eq_some_iff.1 hi).1; omega)
  exact ⟨g, o, rfl, hk.cell h1 hn, hk.cell h2 hn, hk.cell h3 hn⟩
def fnd (l : List Fl) (c : UInt8) : Option Fl := l.find? (fun f => f.letter == c)
def fl0 : Fl := ⟨0, [], false⟩
set_option maxRecDepth 100000 in
set_option maxHeartbeats 4000000 in
theorem find_94 (v : Value) (l : List Fl) (c : UInt8) (w : World) (hv : Flgs w v l) :
    Calls Tryd.prog 94 #[v, .int .u8 c.toNat] w fun e w' => e = .returned (.tuple #[flV ((fnd l c).getD fl0), .bool (fnd l c).isSome]) ∧ w.grownBy w' none := by
  obtain ⟨ao, cp, rfl, hlc, hc, ha, hx⟩ := hv
  unfold maxLen at hc
  have hlen : l.length ≤ 9223372036854775807 := by omega
  go_enter Tryd.func94, Tryd.ntmps94
  go_wp2
  have hw0 := World.grownBy_alloc w (.cells #[.int .u8 0, .string ⟨#[]⟩, .bool false] 75) none
  have hb0 := Box.new w 75 #[.int .u8 0, .string ⟨#[]⟩, .bool false]
  generalize hW : w.alloc (.cells #[.int .u8 0, .string ⟨#[]⟩, .bool false] 75) = W0 at *
  go_loopw [10] (fun v wr => ∃ i : Nat, i ≤ l.length ∧ v = .int .i64 i ∧ W0.grownBy wr none ∧ fnd (l.take i) c = none) (fun v _ => l.length - (intOf v).toNat)
  case atStart => exact ⟨0, by omega, rfl, gb_refl _ _, rfl⟩
  case round =>
    obtain ⟨i, hi, rfl, hg, hp⟩ := hrel
    have hb := hb0.kept hg (by simp)
    have r0 : wr.cell? ⟨w.heap.size, 0, none⟩ = some (.int .u8 0) := hb.cell 0
    have r1 : wr.cell? ⟨w.heap.size, 1, none⟩ = some (.string ⟨#[]⟩) := hb.cell 1
    have r2 : wr.cell? ⟨w.heap.size, 2, none⟩ = some (.bool false) := hb.cell 2
    have z0 := hb.fz 0
    have z1 := hb.fz 1
    have z2 := hb.fz 2
    have hs1 : ¬ w.heap.size = wr.heap.size := by have := hb.lt; omega
    have hs2 : ¬ wr.heap.size = w.heap.size := by omega
    rcases (by omega : i < l.length ∨ i = l.length) with hlt | rfl
    · obtain ⟨f, hf⟩ : ∃ f, l[i]? = some f := ⟨_, List.getElem?_eq_getElem hlt⟩
      obtain ⟨g, o, rfl, h1, h2, h3⟩ := hx i f hf
      have gg := gb_trans hw0 hg
      replace h1 := gb_cellN gg h1
      replace h2 := gb_cellN gg h2
      replace h3 := gb_cellN gg h3
      have d1 : ((i : Int) < (l.length : Int)) := by omega
      obtain ⟨fc, fa, fh⟩ := f
      simp only at h1 h2 h3
      have gV := World.grownBy_alloc wr (.cells #[.int .u8 fc.toNat, .string ⟨fa.toArray⟩, .bool fh] 75) none
      have bV := hb.kept gV (by simp)
      have s0 := gb_cellN gV r0
      have s1 := gb_cellN gV r1
      have s2 := gb_cellN gV r2
      have y0 := bV.fz 0
      have y1 := bV.fz 1
      have y2 := bV.fz 2
      have hT : fnd (l.take (i + 1)) c = if fc == c then some ⟨fc, fa, fh⟩ else none := by
        simp only [fnd] at hp ⊢
        rw [List.take_add_one, hf, Option.toList_some, List.find?_append, hp]
        by_cases h : fc == c
        · simp [h]
        · simp [h]
      go_wp2
      · rename_i hq
        have e : fc = c := UInt8.toNat_inj.1 (by have := beq_iff_eq.1 hq; omega)
        subst e
        have hF : fnd l fc = some ⟨fc, fa, fh⟩ := by
          simp only [beq_self_eq_true, if_true] at hT
          simp only [fnd] at hT ⊢
          rw [← List.take_append_drop (i + 1) l, List.find?_append, hT]; rfl
        rw [hF]
        have hb3 := ((bV.set 0 (.int .u8 fc.toNat)).set 1 (.string ⟨fa.toArray⟩)).set 2 (.bool fh)
        have hg3 : w.grownBy _ none := gb_mine (gb_trans gg gV) (gb_setCell (i := 2) (gb_setCell (i := 1) (gb_setCell (i := 0) (gb_refl _ (some w.heap.size)) (.int .u8 fc.toNat)) (.string ⟨fa.toArray⟩)) (.bool fh)) (Nat.le_refl _)
        generalize (((wr.alloc (.cells #[.int .u8 fc.toNat, .string ⟨fa.toArray⟩, .bool fh] 75)).setCell ⟨w.heap.size, 0, none⟩ (.int .u8 fc.toNat)).setCell ⟨w.heap.size, 1, none⟩ (.string ⟨fa.toArray⟩)).setCell ⟨w.heap.size, 2, none⟩ (.bool fh) = V at *
        have x0 := hb3.cell 0
        have x1 := hb3.cell 1
        have x2 := hb3.cell 2
        simp at x0 x1 x2
        exact bodyPost_ret (v := .tuple #[.agg #[.int .u8 fc.toNat, .string ⟨fa.toArray⟩, .bool fh], .bool true]) (by simp [results, Tryd.results94, go_sem, x0, x1, x2]) rfl ⟨rfl, hg3⟩
      · rename_i hq
        refine ⟨⟨i + 1, by omega, by simp, gb_trans hg gV, ?_⟩, ?_⟩
        · rw [hT, if_neg]
          intro e
          have := beq_iff_eq.1 e
          subst this
          simp at hq
        · simp only [intOf]; omega
    · have hF : fnd l c = none := by rw [List.take_length] at hp; exact hp
      have hb3 := ((hb.set 0 (.int .u8 0)).set 1 (.string ⟨#[]⟩)).set 2 (.bool false)
      have hg3 : w.grownBy _ none := gb_mine (gb_trans hw0 hg) (gb_setCell (i := 2) (gb_setCell (i := 1) (gb_setCell (i := 0) (gb_refl _ (some w.heap.size)) (.int .u8 0)) (.string ⟨#[]⟩)) (.bool false)) (Nat.le_refl _)
      go_wp2
      rw [hF]
      generalize ((wr.setCell ⟨w.heap.size, 0, none⟩ (.int .u8 0)).setCell ⟨w.heap.size, 1, none⟩ (.string ⟨#[]⟩)).setCell ⟨w.heap.size, 2, none⟩ (.bool false) = V at *
      have x0 := hb3.cell 0
      have x1 := hb3.cell 1
      have x2 := hb3.cell 2
      simp at x0 x1 x2
      exact bodyPost_ret (v := .tuple #[.agg #[.int .u8 0, .string ⟨#[]⟩, .bool false], .bool false]) (by simp [results, Tryd.results94, go_sem, x0, x1, x2]) rfl ⟨rfl, hg3⟩
/-- Is a number counted down? -/
def away (l : List Fl) : Bool := ((fnd l 77).getD fl0).arg.head? == some 68 || ((fnd l 77).getD fl0).arg.head? == some 100
set_option maxRecDepth 100000 in
set_option maxHeartbeats 4000000 in
theorem away_95 (v : Value) (l : List Fl) (w : World) (hv : Flgs w v l) :
    Calls Tryd.prog 95 #[v] w fun e w' => e = .returned (.bool (away l)) ∧ w.grownBy w' none := by
  have h94 := find_94 v l 77 w hv
  obtain ⟨f, hf⟩ : ∃ f, (fnd l 77).getD fl0 = f := ⟨_, rfl⟩
  have ha : f.arg.length ≤ 4611686018427387904 := by
    obtain ⟨ao, c, rfl, hlc, hc, ha, hx⟩ := hv
    subst hf
    cases hF : fnd l 77 with
    | none => simp [fl0]
    | some f => exact ha f (List.mem_of_find?_eq_some hF)
  unfold away
  rw [hf] at h94 ⊢
  have hD := fun W => pre_105 f.arg ha 68 W
  have hd := fun W => pre_105 f.arg ha 100 W
  obtain ⟨fc, fa, fh⟩ := f
  simp only at h94 hD hd ⊢
  clear hf hv
  have e77 : ((77 : UInt8).toNat : Int) = 77 := rfl
  rw [e77] at h94
  go_enter Tryd.func95, Tryd.ntmps95
  go_wp2_with (go_at_call 94; (with_reducible refine h94.mono ?_); rintro e w1 ⟨rfl, hg1⟩)
  refine (hD _).mono ?_
  rintro e w2 ⟨rfl, rfl⟩
  obtain ⟨B68, hB⟩ : ∃ x, (fa.head? == some 68) = x := ⟨_, rfl⟩
  rw [hB]
  cases B68
  · go_wp2_with (go_at_call 105; (with_reducible refine (hd _).mono ?_); rintro e w3 ⟨rfl, rfl⟩)
    go_ret
    exact ⟨by rw [hB]; rfl, gb_trans hg1 (World.grownBy_alloc _ _ none)⟩
  · go_wp2
    go_ret
    exact ⟨by rw [hB]; rfl, gb_trans hg1 (World.grownBy_alloc _ _ none)⟩
end Go.Proofs.YtonbkpfnpnlkpaaDoor
