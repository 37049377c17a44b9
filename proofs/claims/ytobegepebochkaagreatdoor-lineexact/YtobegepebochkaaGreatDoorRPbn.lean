import Derived.Test.YtobegepebochkaaGreatDoorRPbm
import Derived.Test.YtobegepebochkaaGreatDoorRPar
import Derived.Lib.SlBytesConst
import Derived.Maps.RangeRun
import Derived.Shelf.Strings.OnBuilder
import Derived.Lib.ConvBytes
import Derived.Test.YtobegepebochkaaGreatDoorRPaq
import Derived.Test.YtobegepebochkaaGreatDoorRPaa
import Derived.Test.YtobegepebochkaaGreatDoorRPav
set_option linter.unusedVariables false
set_option linter.unusedSimpArgs false
namespace Go.Proofs.YtobegepebochkaaGreatDoor
open Go.RowKit Go.Maps
def nxL : Bs → Nat → Int
  | [], _ => -1
  | b :: t, i => if b = 10 then (i : Int) else nxL t (i + 1)
theorem nxL_no : ∀ (r : Bs) (i : Nat), (10 : UInt8) ∉ r → nxL r i = -1
  | [], i, h => rfl
  | b :: t, i, h => by
    simp only [List.mem_cons, not_or] at h
    rw [nxL, if_neg (fun e => h.1 e.symm), nxL_no t (i + 1) h.2]
theorem nxL_yes : ∀ (p t : Bs) (i : Nat), (10 : UInt8) ∉ p → nxL (p ++ 10 :: t) i = ((i + p.length : Nat) : Int)
  | [], t, i, h => by simp [nxL]
  | b :: p, t, i, h => by
    simp only [List.mem_cons, not_or] at h
    rw [List.cons_append, nxL, if_neg (fun e => h.1 e.symm), nxL_yes p t (i + 1) h.2]
    simp only [List.length_cons]
    congr 1
    omega
theorem nxL_le : ∀ (r : Bs) (i : Nat), i + r.length ≤ 2199023255552 → nxL r i ≤ 2199023255552 ∧ -1 ≤ nxL r i
  | [], i, h => by simp [nxL]
  | b :: t, i, h => by
    simp only [List.length_cons] at h
    rw [nxL]
    split
    · omega
    · exact nxL_le t (i + 1) (by omega)
theorem drop_at {raw : Bs} {i : Nat} (h : i < raw.length) : ∃ b, raw[i]? = some b ∧ raw.drop i = b :: raw.drop (i + 1) := ⟨raw[i], List.getElem?_eq_getElem h, List.drop_eq_getElem_cons h⟩
theorem Ck.at' {w : World} {X : Nat → Prop} {a : Option Addr} {n c : Nat} {l : Bs} (h : Ck w X (.slice a n c) l) {i : Nat} {x : UInt8} (hi : l[i]? = some x) : ∃ g o, a = some ⟨g, o, none⟩ ∧ w.cell? ⟨g, o + i, none⟩ = some (b8 x) := by
  rcases h with ⟨rfl, _⟩ | ⟨g, o, c', e, _, _, _, _, h⟩
  · simp at hi
  · injection e with e1 e2 e3
    exact ⟨g, o, e1, h i x hi⟩
set_option maxRecDepth 100000 in
set_option maxHeartbeats 4000000 in
theorem next_116 {w : World} {X : Nat → Prop} {a : Option Addr} {c : Nat} {raw : Bs} (hv : Ck w X (.slice a raw.length c) raw) (hl : raw.length ≤ 1099511627776) (at_ : Nat) (hat : at_ ≤ raw.length) :
    Calls Tryz.prog 116 #[.slice a raw.length c, .int .i64 at_] w fun e w' => e = .returned (.int .i64 (nxL (raw.drop at_) at_)) ∧ w' = w := by
  generalize hR : nxL (raw.drop at_) at_ = R
  obtain ⟨n, hn⟩ : ∃ n, raw.length = n := ⟨_, rfl⟩
  have HV : Hid _ := hv
  rw [hn] at hat hl ⊢
  clear hv
  go_enter Tryz.func116, Tryz.ntmps116
  go_wp2
  go_loopw [5] (fun x wr => ∃ i : Nat, i ≤ n ∧ x = .int .i64 i ∧ nxL (raw.drop i) i = R ∧ wr = w) (fun x _ => n - (intOf x).toNat)
  case atStart => exact ⟨at_, hat, rfl, hR, rfl⟩
  case round =>
    clear hR
    obtain ⟨i, hi, rfl, hR, hw⟩ := hrel
    subst hw
    by_cases hlt : i < n
    · obtain ⟨b, hb, hd⟩ := drop_at (raw := raw) (i := i) (by omega)
      obtain ⟨g, o, rfl, hc⟩ := Ck.at' HV.out hb
      rw [hd, nxL] at hR
      have d1 : ((i : Int) < (n : Int)) := by omega
      have HR : Hid _ := hR
      clear hR hd hb
      by_cases hb10 : b = 10
      · subst hb10
        have hc' : wr.cell? ⟨g, o + i, none⟩ = some (.int .u8 10) := hc
        clear hc
        go_wp2
        go_ret
        have h9 : (i : Int) = R := by simpa using HR.out
        subst h9
        first | exact ⟨rfl, rfl⟩ | simp
      · have hne : ¬ (b.toNat : Int) = 10 := fun e => hb10 (UInt8.toNat_inj.1 (by show b.toNat = 10; omega))
        have hne2 : ¬ b.toNat = 10 := fun e => hne (by omega)
        have hd1 : ((b.toNat : Int) == 10) = false := by simpa using hne
        have hd0 : (b.toNat == 10) = false := by simpa using hne2
        have hd2 : decide ((b.toNat : Int) = 10) = false := decide_eq_false hne
        have hd3 : decide (b.toNat = 10) = false := decide_eq_false hne2
        go_wp2
        have h9 : nxL (List.drop (i + 1) raw) (i + 1) = R := by simpa [hb10] using HR.out
        exact ⟨⟨i + 1, by omega, by go_num, h9, trivial⟩, by simp [intOf]; omega⟩
    · obtain rfl : i = n := by omega
      have hR' : R = -1 := by rw [← hR, List.drop_eq_nil_of_le (by omega)]; rfl
      subst hR'
      clear hR
      go_wp2
      go_ret
      exact ⟨rfl, rfl⟩
def blkT (r : Bs) (e : Nat) : Int := if nxL r e < 0 then -1 else nxL r e + 1
def blkG : Bs → Bool
  | 13 :: 10 :: _ => true
  | _ => false
set_option maxRecDepth 100000 in
set_option maxHeartbeats 4000000 in
theorem block_117 {w : World} {X : Nat → Prop} {a : Option Addr} {c : Nat} {raw : Bs} (hv : Ck w X (.slice a raw.length c) raw) (hl : raw.length ≤ 1099511627776) (at_ m : Nat) (hm : at_ + m ≤ 2199023255552) :
    Calls Tryz.prog 117 #[.slice a raw.length c, .int .i64 at_, .int .i64 m] w fun e w' => e = .returned (.tuple #[.int .i64 (blkT (raw.drop (at_ + m)) (at_ + m)), .bool (blkG (raw.drop (at_ + m)))]) ∧ w' = w := by
  obtain ⟨E, hE⟩ : ∃ E, at_ + m = E := ⟨_, rfl⟩
  have hsum : (at_ : Int) + (m : Int) = (E : Int) := by omega
  have hwr : IntKind.i64.wrap (E : Int) = (E : Int) := by rw [IntKind.wrap_i64]; omega
  have hwr1 : IntKind.i64.wrap ((E : Int) + 1) = (E : Int) + 1 := by rw [IntKind.wrap_i64]; omega
  have hwr2 : IntKind.i64.wrap ((E : Int) + 2) = (E : Int) + 2 := by rw [IntKind.wrap_i64]; omega
  rw [hE] at hm ⊢
  have h116 : E ≤ raw.length → Calls Tryz.prog 116 #[.slice a raw.length c, .int .i64 E] w fun e w' => e = .returned (.int .i64 (nxL (raw.drop E) E)) ∧ w' = w := fun h => next_116 hv hl E h
  have hat : ∀ {i : Nat} {x : UInt8}, raw[i]? = some x → ∃ g o, a = some ⟨g, o, none⟩ ∧ w.cell? ⟨g, o + i, none⟩ = some (b8 x) := fun h => hv.at' h
  obtain ⟨n, hn⟩ : ∃ n, raw.length = n := ⟨_, rfl⟩
  have hnext : ∀ r, raw.drop E = r → (r = [] → n ≤ E) := fun r hr h0 => by
    have := congrArg List.length hr
    rw [List.length_drop, h0, hn] at this
    simp at this
    omega
  have hg : ∀ k, raw[E + k]? = (raw.drop E)[k]? := fun k => by rw [List.getElem?_drop]
  rw [hn] at hl h116 ⊢
  clear hv
  have hlen : (raw.drop E).length = n - E := by rw [List.length_drop, hn]
  generalize raw.drop E = r at *
  rcases r with _ | ⟨b0, r1⟩
  · -- nothing is there
    have hge : n ≤ E := hnext [] rfl rfl
    have hgi : ((n : Int) ≤ (E : Int)) := by omega
    clear h116 hat hg hnext
    go_enter Tryz.func117, Tryz.ntmps117
    go_wp2
    go_ret2
    exact ⟨rfl, rfl⟩
  · have hlt : E < n := by simp at hlen; omega
    obtain ⟨g, o, rfl, c0⟩ := hat (i := E) (x := b0) (by have := hg 0; simpa using this)
    have h1 := h116 (by omega)
    have hgi : ¬ ((n : Int) ≤ (E : Int)) := by omega
    have hgj : (E : Int) < (n : Int) := by omega
    clear h116 hnext
    by_cases hb : b0 = 13
    · subst hb
      have c0' : w.cell? ⟨g, o + E, none⟩ = some (.int .u8 13) := c0
      clear c0
      rcases r1 with _ | ⟨b1, r2⟩
      · have hl2 : n = E + 1 := by simp at hlen; omega
        have hge : ((n : Int) ≤ (E : Int) + 1) := by omega
        clear h1 hat hg
        go_enter Tryz.func117, Tryz.ntmps117
        go_wp2
        go_ret2
        exact ⟨rfl, rfl⟩
      · have hl2 : E + 1 < n := by simp at hlen; omega
        have hge : ¬ ((n : Int) ≤ (E : Int) + 1) := by omega
        have hgk : (E : Int) + 1 < (n : Int) := by omega
        obtain ⟨g', o', e', c1⟩ := hat (i := E + 1) (x := b1) (by have := hg 1; simpa using this)
        injection e' with e'
        injection e' with e1 e2
        subst e1 e2
        by_cases hb1 : b1 = 10
        · subst hb1
          have c1' : w.cell? ⟨g, o + (E + 1), none⟩ = some (.int .u8 10) := c1
          clear h1 hat hg c1
          go_enter Tryz.func117, Tryz.ntmps117
          go_wp2
          go_ret2
          refine ⟨?_, rfl⟩
          have : blkT (13 :: 10 :: r2) E = (E : Int) + 2 := by
            simp [blkT, nxL]
            omega
          rw [this]
          rfl
        · have hne : ¬ (b1.toNat : Int) = 10 := fun e => hb1 (UInt8.toNat_inj.1 (by show b1.toNat = 10; omega))
          have hne2 : ¬ b1.toNat = 10 := fun e => hne (by omega)
          have hd1 : ((b1.toNat : Int) == 10) = false := by simpa using hne
          have hd0 : (b1.toNat == 10) = false := by simpa using hne2
          have hd2 : decide ((b1.toNat : Int) = 10) = false := decide_eq_false hne
          have hG : blkG (13 :: b1 :: r2) = false := by
            unfold blkG
            split
            · rename_i h
              injection h with _ h
              injection h with h _
              exact absurd h hb1
            · rfl
          have hT : blkT (13 :: b1 :: r2) E = if nxL (13 :: b1 :: r2) E < 0 then -1 else nxL (13 :: b1 :: r2) E + 1 := rfl
          rw [hG, hT]
          have hb40 : nxL (13 :: b1 :: r2) E ≤ 2199023255552 ∧ -1 ≤ nxL (13 :: b1 :: r2) E := nxL_le _ _ (by simp only [List.length_cons] at hlen ⊢; omega)
          generalize nxL (13 :: b1 :: r2) E = N at *
          clear hat hg hG hT
          by_cases hN : N < 0
          · rw [if_pos hN]
            go_enter Tryz.func117, Tryz.ntmps117
            go_wp2_with (go_at_call 116; go_must ((with_reducible refine h1.mono ?_); rintro e w1 ⟨rfl, hw1⟩; (have hw2 := hw1.symm); subst hw2))
            go_ret2
            exact ⟨rfl, rfl⟩
          · rw [if_neg hN]
            have hwN : IntKind.i64.wrap (N + 1) = N + 1 := by rw [IntKind.wrap_i64]; omega
            have hN0 : 0 ≤ N := by omega
            go_enter Tryz.func117, Tryz.ntmps117
            go_wp2_with (go_at_call 116; go_must ((with_reducible refine h1.mono ?_); rintro e w1 ⟨rfl, hw1⟩; (have hw2 := hw1.symm); subst hw2))
            go_ret2
            exact ⟨rfl, rfl⟩
    · have hne : ¬ (b0.toNat : Int) = 13 := fun e => hb (UInt8.toNat_inj.1 (by show b0.toNat = 13; omega))
      have hne2 : ¬ b0.toNat = 13 := fun e => hne (by omega)
      have hd1 : ((b0.toNat : Int) == 13) = false := by simpa using hne
      have hd0 : (b0.toNat == 13) = false := by simpa using hne2
      have hd2 : decide ((b0.toNat : Int) = 13) = false := decide_eq_false hne
      have hG : blkG (b0 :: r1) = false := by
        unfold blkG
        split
        · rename_i h
          injection h with h _
          exact absurd h hb
        · rfl
      have hT : blkT (b0 :: r1) E = if nxL (b0 :: r1) E < 0 then -1 else nxL (b0 :: r1) E + 1 := rfl
      rw [hG, hT]
      have hb40 : nxL (b0 :: r1) E ≤ 2199023255552 ∧ -1 ≤ nxL (b0 :: r1) E := nxL_le _ _ (by simp only [List.length_cons] at hlen ⊢; omega)
      generalize nxL (b0 :: r1) E = N at *
      clear hat hg hG hT
      by_cases hN : N < 0
      · rw [if_pos hN]
        go_enter Tryz.func117, Tryz.ntmps117
        go_wp2_with (go_at_call 116; go_must ((with_reducible refine h1.mono ?_); rintro e w1 ⟨rfl, hw1⟩; (have hw2 := hw1.symm); subst hw2))
        go_ret2
        exact ⟨rfl, rfl⟩
      · rw [if_neg hN]
        have hwN : IntKind.i64.wrap (N + 1) = N + 1 := by rw [IntKind.wrap_i64]; omega
        have hN0 : 0 ≤ N := by omega
        go_enter Tryz.func117, Tryz.ntmps117
        go_wp2_with (go_at_call 116; go_must ((with_reducible refine h1.mono ?_); rintro e w1 ⟨rfl, hw1⟩; (have hw2 := hw1.symm); subst hw2))
        go_ret2
        exact ⟨rfl, rfl⟩
end Go.Proofs.YtobegepebochkaaGreatDoor
namespace Go.Proofs.YtobegepebochkaaGreatDoor
open Go.RowKit Go.Shelf
abbrev c1 : Cmd := ⟨5, [[97]], 5, 0, 0, 0, false, [], []⟩
abbrev c3 : Cmd := ⟨1, [[97], [98]], 0, 0, 0, 0, false, [], []⟩
end Go.Proofs.YtobegepebochkaaGreatDoor
namespace Go.Proofs.YtobegepebochkaaGreatDoor
open Go.RowKit Go.Maps
theorem zz_new (w : World) : Box ((w.alloc (.cells Z41 41)).alloc (.cells Z43 43)) 41 w.heap.size Z41 ∧ Box ((w.alloc (.cells Z41 41)).alloc (.cells Z43 43)) 43 (w.heap.size + 1) Z43 ∧ w.grownBy ((w.alloc (.cells Z41 41)).alloc (.cells Z43 43)) none := by
  have g1 := gb_alloc (gb_refl (w.alloc (.cells Z41 41)) none) (.cells Z43 43)
  refine ⟨(Box.new w 41 Z41).kept g1 (by simp), ?_, gb_trans (gb_alloc (gb_refl w none) _) g1⟩
  have := Box.new (w.alloc (.cells Z41 41)) 43 Z43
  simp only [World.size_alloc] at this
  exact this
end Go.Proofs.YtobegepebochkaaGreatDoor
