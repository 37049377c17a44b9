import Derived.Test.YtbbocbdoiealoaaGreatDoorRPar
import Derived.Test.YtbbocbdoiealoaaGreatDoorRE
import Derived.Test.YtbbocbdoiealoaaGreatDoorRH
import Derived.Test.YtbbocbdoiealoaaGreatDoorRPai
import Derived.Test.YtbbocbdoiealoaaGreatDoorRPaq
set_option linter.unusedVariables false
set_option linter.unusedSimpArgs false
namespace Go.Proofs.YtbbocbdoiealoaaGreatDoor
open Go.RowKit Go.Maps
attribute [local go_sem] Oper.semAt_some
structure Dr where
  shape : Bs
  least : Nat
  again : Bool
  reply : Bool
  block : Bool
def drL : List Dr := [⟨[75], 1, true, false, false⟩, ⟨[75], 1, true, false, false⟩, ⟨[84, 75], 2, true, false, false⟩, ⟨[84, 75], 2, true, false, false⟩, ⟨[75, 70, 84, 78], 4, false, true, true⟩, ⟨[75, 70, 84, 78], 4, false, true, true⟩, ⟨[75, 70, 84, 78], 4, false, true, true⟩, ⟨[75, 70, 84, 78], 4, false, true, true⟩, ⟨[75, 70, 84, 78], 4, false, true, true⟩, ⟨[75, 70, 84, 78, 67], 5, false, true, true⟩, ⟨[75, 90], 1, false, true, false⟩, ⟨[75, 68], 2, false, true, false⟩, ⟨[75, 68], 2, false, true, false⟩, ⟨[75, 84], 2, false, true, false⟩, ⟨[83], 0, false, true, false⟩, ⟨[], 0, false, false, false⟩, ⟨[86], 1, false, true, false⟩, ⟨[], 0, false, false, false⟩, ⟨[87], 0, false, false, false⟩, ⟨[75, 71], 1, true, false, false⟩, ⟨[75, 78, 71], 2, true, false, true⟩, ⟨[75, 71], 1, true, false, false⟩, ⟨[75, 71], 1, true, false, false⟩, ⟨[], 0, false, false, false⟩]
def dr (i : Nat) : Dr := drL.getD i ⟨[], 0, false, false, false⟩
end Go.Proofs.YtbbocbdoiealoaaGreatDoor
namespace Go.Proofs.YtbbocbdoiealoaaGreatDoor
open Go.RowKit Go.Maps
attribute [local go_sem] Oper.semAt_some
abbrev Z41 : Array Value := #[.int .i64 0, .slice none 0 0, .int .u64 0, .int .i64 0, .int .u64 0, .int .u64 0, .slice none 0 0, .bool false, .bool false, .slice none 0 0, .string ⟨#[]⟩]
end Go.Proofs.YtbbocbdoiealoaaGreatDoor
namespace Go.Proofs.YtbbocbdoiealoaaGreatDoor
open Go.RowKit
def Fg (w : World) (v : Value) (fs : List Fl) : Prop := (fs = [] ∧ ∃ a c, v = .slice a 0 c) ∨ ∃ g o c, v = .slice (some ⟨g, o, none⟩) fs.length c ∧ ∀ i f, fs[i]? = some f →
  w.cell? ⟨g, o + i * 3, none⟩ = some (.int .u8 f.letter.toNat) ∧ w.cell? ⟨g, o + i * 3 + 1, none⟩ = some (sv f.arg) ∧ w.cell? ⟨g, o + i * 3 + 2, none⟩ = some (.bool f.has)
theorem Fg.kept {w w' : World} {v : Value} {fs : List Fl} (h : Fg w v fs) (hf : w.grownBy w' none) : Fg w' v fs := by
  rcases h with h | ⟨g, o, c, e, h⟩
  · exact .inl h
  · exact .inr ⟨g, o, c, e, fun i f hi => ⟨gb_cellN hf (h i f hi).1, gb_cellN hf (h i f hi).2.1, gb_cellN hf (h i f hi).2.2⟩⟩
def seen (fs : List Fl) (k : Nat) : Bs := ((fs.take k).map (·.letter)).reverse
end Go.Proofs.YtbbocbdoiealoaaGreatDoor
namespace Go.Proofs.YtbbocbdoiealoaaGreatDoor
open Go.RowKit Go.Maps
theorem ws_row {w : World} {B n : Nat} {v : Value} {ws : List Bs} (h : w.ownsRow B 9 1 v n (ws.map sv)) (hn : ws.length = n) : Ws w v ws := by
  obtain ⟨ao, c, rfl, _, h2, _, h4⟩ := row_shape h
  rcases Nat.eq_zero_or_pos n with h0 | h0
  · subst h0; exact .inl ⟨List.length_eq_zero_iff.1 hn, _, _, rfl⟩
  · obtain ⟨g, rfl⟩ := h4 h0
    obtain ⟨cur, hcur⟩ := row_block h g rfl
    exact .inr ⟨g, 0, c, by rw [hn], by omega, lt_of_block hcur, fun i x hx => by rw [Nat.zero_add]; exact row_cell h i _ (by rw [List.getElem?_map, hx]; rfl)⟩
theorem fcs_get3 : ∀ (l : List Fl) (i : Nat) (f : Fl), l[i]? = some f → (fcs l)[i * 3]? = some (.int .u8 f.letter.toNat) ∧ (fcs l)[i * 3 + 1]? = some (sv f.arg) ∧ (fcs l)[i * 3 + 2]? = some (.bool f.has)
  | [], i, f, h => by simp at h
  | x :: l, 0, f, h => by
    simp at h
    subst h
    exact ⟨rfl, rfl, rfl⟩
  | x :: l, i + 1, f, h => by
    simp at h
    have e : fcs (x :: l) = .int .u8 x.letter.toNat :: sv x.arg :: .bool x.has :: fcs l := rfl
    have e1 : (i + 1) * 3 = i * 3 + 1 + 1 + 1 := by omega
    rw [e, e1]
    simp only [List.getElem?_cons_succ]
    have := fcs_get3 l i f h
    exact this
theorem fs_row {w : World} {B : Nat} {v : Value} {fs : List Fl} (h : w.ownsRow B 79 3 v fs.length (fcs fs)) : Fs w v fs := by
  obtain ⟨ao, c, rfl, _, h2, _, h4⟩ := row_shape h
  rcases Nat.eq_zero_or_pos fs.length with h0 | h0
  · rw [h0]; exact .inl ⟨List.length_eq_zero_iff.1 h0, _, _, rfl⟩
  · obtain ⟨g, rfl⟩ := h4 h0
    refine .inr ⟨g, c, rfl, fun i f hf => ?_⟩
    obtain ⟨a, b, d⟩ := fcs_get3 fs i f hf
    exact ⟨row_cell h _ _ a, row_cell h _ _ b, row_cell h _ _ d⟩
theorem by_row {w : World} {B : Nat} {v : Value} {l : Bs} (h : w.ownsRow B 5 1 v l.length (l.map b8)) (hl : l.length ≤ 1099511627776) : By w v l := by
  obtain ⟨ao, c, rfl, _, h2, _, h4⟩ := row_shape h
  rcases Nat.eq_zero_or_pos l.length with h0 | h0
  · rw [h0]; exact .inl ⟨List.length_eq_zero_iff.1 h0, _, _, rfl⟩
  · obtain ⟨g, rfl⟩ := h4 h0
    refine .inr ⟨g, 0, c, rfl, hl, row_lt h g rfl, fun i x hi => ?_⟩
    rw [Nat.zero_add]
    refine row_cell h i _ ?_
    rw [List.getElem?_map, hi]; rfl
set_option maxRecDepth 100000 in
set_option maxHeartbeats 4000000 in
theorem texts_82 {w : World} {u v : Value} {ws : List Bs} (hu : Ws w u ws) (hv : Ws w v ws) (hn : ws.length ≤ 9223372036854775807) :
    Calls Tryz.prog 87 #[u, v] w fun e w' => e = .returned (.bool true) ∧ w.grownBy w' none := by
  obtain ⟨n, hnn⟩ : ∃ n, ws.length = n := ⟨_, rfl⟩
  have hcu : ∃ a c, u = .slice a n c ∧ ∀ i x, ws[i]? = some x → ∃ g o, a = some ⟨g, o, none⟩ ∧ w.cell? ⟨g, o + i, none⟩ = some (sv x) := by
    rcases hu with ⟨rfl, a, c, rfl⟩ | ⟨g, o, c, rfl, _, _, h⟩
    · exact ⟨a, c, by rw [← hnn]; rfl, fun i x hx => by simp at hx⟩
    · exact ⟨_, c, by rw [hnn], fun i x hx => ⟨g, o, rfl, h i x hx⟩⟩
  have hcv : ∃ a c, v = .slice a n c ∧ ∀ i x, ws[i]? = some x → ∃ g o, a = some ⟨g, o, none⟩ ∧ w.cell? ⟨g, o + i, none⟩ = some (sv x) := by
    rcases hv with ⟨rfl, a, c, rfl⟩ | ⟨g, o, c, rfl, _, _, h⟩
    · exact ⟨a, c, by rw [← hnn]; rfl, fun i x hx => by simp at hx⟩
    · exact ⟨_, c, by rw [hnn], fun i x hx => ⟨g, o, rfl, h i x hx⟩⟩
  obtain ⟨ua, uc, rfl, hcu⟩ := hcu
  obtain ⟨va, vc, rfl, hcv⟩ := hcv
  clear hu hv
  go_enter Tryz.func87, Tryz.ntmps87
  go_wp2
  go_loopw [5] (fun x wr => ∃ k : Nat, k ≤ n ∧ x = .int .i64 k ∧ w.grownBy wr none) (fun x _ => n - (intOf x).toNat)
  case atStart => exact ⟨0, by omega, rfl, gb_refl _ _⟩
  case round =>
    obtain ⟨k, hk, rfl, hg⟩ := hrel
    rcases (by omega : k < n ∨ k = n) with hlt | rfl
    · obtain ⟨x, hx⟩ : ∃ x, ws[k]? = some x := ⟨_, List.getElem?_eq_getElem (by omega)⟩
      obtain ⟨g1, o1, rfl, c1⟩ := hcu k x hx
      obtain ⟨g2, o2, rfl, c2⟩ := hcv k x hx
      have c1 := gb_cellN hg c1
      have c2 := gb_cellN hg c2
      have d1 : ((k : Int) < (n : Int)) := by omega
      clear hcu hcv
      go_wp2
      go_quiet (fail)
      go_wp2
      refine ⟨⟨k + 1, by omega, by simp, gb_drewN hg _⟩, by simp [intOf]; omega⟩
    · have d1 : decide ((k : Int) < (k : Int)) = false := decide_eq_false (by omega)
      go_wp2
      go_ret
      exact ⟨rfl, hg⟩
set_option maxRecDepth 100000 in
set_option maxHeartbeats 4000000 in
theorem kflags_104 {w : World} {u v : Value} {fs : List Fl} (hu : Fs w u fs) (hv : Fs w v fs) (hn : fs.length ≤ 9223372036854775807) :
    Calls Tryz.prog 109 #[u, v] w fun e w' => e = .returned (.bool true) ∧ w.grownBy w' none := by
  obtain ⟨n, hnn⟩ : ∃ n, fs.length = n := ⟨_, rfl⟩
  have key : ∀ {u : Value}, Fs w u fs → ∃ a c, u = .slice a n c ∧ ∀ i f, fs[i]? = some f → ∃ g, a = some ⟨g, 0, none⟩ ∧ w.cell? ⟨g, i * 3, none⟩ = some (.int .u8 f.letter.toNat) ∧ w.cell? ⟨g, i * 3 + 1, none⟩ = some (sv f.arg) ∧ w.cell? ⟨g, i * 3 + 2, none⟩ = some (.bool f.has) := by
    intro u hu
    rcases hu with ⟨rfl, a, c, rfl⟩ | ⟨g, c, rfl, h⟩
    · exact ⟨a, c, by rw [← hnn]; rfl, fun i x hx => by simp at hx⟩
    · exact ⟨_, c, by rw [hnn], fun i x hx => ⟨g, rfl, h i x hx⟩⟩
  obtain ⟨ua, uc, rfl, hcu⟩ := key hu
  obtain ⟨va, vc, rfl, hcv⟩ := key hv
  clear hu hv key
  go_enter Tryz.func109, Tryz.ntmps109
  go_wp2
  go_loopw [5] (fun x wr => ∃ k : Nat, k ≤ n ∧ x = .int .i64 k ∧ w.grownBy wr none) (fun x _ => n - (intOf x).toNat)
  case atStart => exact ⟨0, by omega, rfl, gb_refl _ _⟩
  case round =>
    obtain ⟨k, hk, rfl, hg⟩ := hrel
    rcases (by omega : k < n ∨ k = n) with hlt | rfl
    · obtain ⟨⟨fl, fa, fh⟩, hx⟩ : ∃ x, fs[k]? = some x := ⟨_, List.getElem?_eq_getElem (by omega)⟩
      obtain ⟨g1, rfl, c1, c2, c3⟩ := hcu k _ hx
      obtain ⟨g2, rfl, e1, e2, e3⟩ := hcv k _ hx
      replace c1 := gb_cellN hg c1
      replace c2 := gb_cellN hg c2
      replace c3 := gb_cellN hg c3
      replace e1 := gb_cellN hg e1
      replace e2 := gb_cellN hg e2
      replace e3 := gb_cellN hg e3
      dsimp only at c1 c2 c3 e1 e2 e3
      have d1 : ((k : Int) < (n : Int)) := by omega
      clear hcu hcv
      go_wp2
      go_quiet (fail)
      go_wp2
      refine ⟨⟨k + 1, by omega, by simp, gb_drewN hg _⟩, by simp [intOf]; omega⟩
    · have d1 : decide ((k : Int) < (k : Int)) = false := decide_eq_false (by omega)
      go_wp2
      go_ret
      exact ⟨rfl, hg⟩
end Go.Proofs.YtbbocbdoiealoaaGreatDoor
