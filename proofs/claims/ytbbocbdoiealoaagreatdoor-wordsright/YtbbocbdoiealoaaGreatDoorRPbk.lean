import Derived.Lib.ConvBytes
import Derived.Test.YtbbocbdoiealoaaGreatDoorRPbg
import Derived.Test.YtbbocbdoiealoaaGreatDoorRMe
import Derived.Test.YtbbocbdoiealoaaGreatDoorRPbh
import Derived.Test.YtbbocbdoiealoaaGreatDoorRPbj
import Derived.Test.YtbbocbdoiealoaaGreatDoorRPar
set_option linter.unusedVariables false
set_option linter.unusedSimpArgs false
namespace Go.Proofs.YtbbocbdoiealoaaGreatDoor
open Go.RowKit Go.Shelf
theorem conv_by (w : World) (l : Bs) (hl : l.length ≤ 1099511627776) : ∃ W c, (convert 9 38 (sv l)).run Tryz.prog w = .ok (.slice (some ⟨w.heap.size, 0, none⟩) l.length c) W ∧ w.grownBy W none ∧ By W (.slice (some ⟨w.heap.size, 0, none⟩) l.length c) l ∧ W.heap.size = w.heap.size + 1 := by
  have hr := Lib.run_convert_string_bytes (P := Tryz.prog) w 9 38 5 ⟨l.toArray⟩ Tryz.underlying9 Tryz.underlying38 Tryz.underlying5
  rw [ba_size] at hr
  refine ⟨_, _, hr, gb_below (Lib.bytesWorld_below _ _ _), .inr ⟨w.heap.size, 0, _, rfl, hl, by rw [Lib.bytesWorld_size]; omega, fun i x hx => ?_⟩, Lib.bytesWorld_size _ _ _⟩
  have hi : i < l.length := (List.getElem?_eq_some_iff.1 hx).1
  rw [Nat.zero_add, Lib.bytesWorld_cell w 5 _ i (by rw [ba_size]; exact hi)]
  show some (Value.int .u8 ((l.getD i 0).toNat : Int)) = _
  rw [List.getD, hx]; rfl
theorem lnp_ok {l : Bs} {w w' : World} {e : Ending} {c : Cmd} (hls : lineS l = .inl (c, -1)) (hmt : c.mt = [])
    (hL : (∃ c n kv mv, lineS l = .inl (c, n) ∧ e = .returned (.tuple #[.agg (cmA c kv mv), .int .i64 n, .agg #[.int .i64 0, sv [], .int .i64 0]]) ∧ w'.ownsRow w.heap.size 9 1 kv c.keys.length (c.keys.map sv) ∧ w'.ownsRow w.heap.size 79 3 mv c.mt.length (fcs c.mt)) ∨
      ∃ k t p, lineS l = .inr (k, t, p) ∧ e = .returned (.tuple #[.agg (Z31 0 false), .int .i64 (-1), .agg #[.int .i64 k, sv t, .int .i64 p]])) :
    ∃ kv mv, e = .returned (.tuple #[.agg (cmA c kv mv), .int .i64 (-1), .agg #[.int .i64 0, sv [], .int .i64 0]]) ∧ w'.ownsRow w.heap.size 9 1 kv c.keys.length (c.keys.map sv) ∧ ∃ a b, mv = .slice a 0 b := by
  rcases hL with ⟨c', n, kv, mv, h1, h2, h3, h4⟩ | ⟨k, t, p, h1, _⟩
  · rw [hls] at h1
    injection h1 with h1
    injection h1 with h5 h6
    subst h5 h6
    refine ⟨kv, mv, h2, h3, ?_⟩
    rw [hmt] at h4
    obtain ⟨a, b, h5, _⟩ := row_shape h4
    exact ⟨a, b, h5⟩
  · rw [hls] at h1; cases h1
set_option maxRecDepth 100000 in
set_option maxHeartbeats 4000000 in
theorem bytes_8 {w : World} (hE : Er w) (c : Cmd) (nm : Bs) (hof : ofS c.verb = some (nm, ⟨c.verb, [75], [75], true, false⟩)) (hnr : c.nr = false) (hmt : c.mt = []) (kg ko kc dc mc : Nat) (da mo : Option Addr) (hks : c.keys ≠ []) (hkl : c.keys.length ≤ 1000000) (hkcap : c.keys.length ≤ kc) (hkg : kg < w.heap.size) (hkc : ∀ i x, c.keys[i]? = some x → w.cell? ⟨kg, ko + i, none⟩ = some (sv x)) (hl : (Lib.join (nm :: c.keys) [32]).length ≤ 1000000) (hls : lineS (Lib.join (nm :: c.keys) [32]) = .inl (c, -1)) :
    Calls Tryz.prog 35 #[.agg (cmB c (.slice (some ⟨kg, ko, none⟩) c.keys.length kc) (.slice da 0 dc) (.slice mo 0 mc) false)] w fun e w' => ∃ v, e = .returned (.tuple #[v, .int .i64 0]) ∧ By w' v (Lib.join (nm :: c.keys) [32] ++ [13, 10]) ∧ w.grownBy w' none := by
  obtain ⟨l, hll⟩ : ∃ l, Lib.join (nm :: c.keys) [32] = l := ⟨_, rfl⟩
  have hgA := gb_alloc (gb_refl w none) (.cells (cmB c (.slice (some ⟨kg, ko, none⟩) c.keys.length kc) (.slice da 0 dc) (.slice mo 0 mc) false) 41)
  have bA := Box.new w 41 (cmB c (.slice (some ⟨kg, ko, none⟩) c.keys.length kc) (.slice da 0 dc) (.slice mo 0 mc) false)
  have h9 := rows_9 (w.alloc (.cells (cmB c (.slice (some ⟨kg, ko, none⟩) c.keys.length kc) (.slice da 0 dc) (.slice mo 0 mc) false) 41))
  simp only [World.size_alloc] at h9
  have h12 := fun W gb (hG : GM W gb rowL) (hg : w.grownBy W none) => spell_12 hG c nm hof hnr kg ko kc da mo 0 dc 0 mc false hks hkl (Nat.lt_of_lt_of_le hkg hg.size) (fun i x hx => gb_cellN hg (hkc i x hx)) (by omega)
  rw [hll] at h12 hls hl ⊢
  have h10 := fun W gb v (hG : GM W gb rowL) (hg : w.grownBy W none) (hB : By W v l) => line_10 hG (hE.kept hg) v l hB
  have h13 : ∀ (w5 : World) (ka : Option Addr) (kb : Nat) (ma : Option Addr) (mb : Nat) (W : World), w.grownBy w5 none → w5.grownBy W none → w5.ownsRow w.heap.size 9 1 (.slice ka c.keys.length kb) c.keys.length (c.keys.map sv) → Calls Tryz.prog 86 #[.agg #[.int .i64 c.verb, .slice ka c.keys.length kb, .int .u64 c.flags, .int .i64 c.exp, .int .u64 c.tok, .int .u64 c.del, .slice none 0 0, .bool c.nr, .bool false, .slice ma 0 mb, sv c.what], .agg #[.int .i64 c.verb, .slice (some ⟨kg, ko, none⟩) c.keys.length kc, .int .u64 c.flags, .int .i64 c.exp, .int .u64 c.tok, .int .u64 c.del, .slice da 0 dc, .bool c.nr, .bool false, .slice mo 0 mc, sv c.what]] W fun e w' => e = .returned (.bool true) ∧ W.grownBy w' none := fun w5 ka kb ma mb W h1 h2 h3 =>
    same_13 c _ _ _ _ _ _ ((ws_row h3 rfl).kept h2) (.inr ⟨kg, ko, kc, rfl, hkcap, Nat.lt_of_lt_of_le hkg (gb_trans h1 h2).size, fun i x hx => gb_cellN (gb_trans h1 h2) (hkc i x hx)⟩) (by omega) ⟨_, _, rfl⟩ ⟨_, _, rfl⟩ ⟨_, _, _, rfl⟩ ⟨_, _, _, rfl⟩
  have hcat : (ByteArray.mk l.toArray ++ ByteArray.mk #[13, 10]) = ⟨(l ++ [13, 10]).toArray⟩ := ba_app l [13, 10]
  have HNR := Lib.hid hnr
  have HMT := Lib.hid hmt
  have HLS := Lib.hid hls
  clear hll hnr hmt hls hof
  go_enter Tryz.func35, Tryz.ntmps35
  go_wp2_with (first | (go_at_call 67; go_must ((with_reducible refine h9.mono ?_); rintro e w2 ⟨rfl, hG2, hg2⟩; (have b2 := bA.kept hg2 (by simp)); (have p0 : w2.cell? ⟨w.heap.size, 0, none⟩ = some (.int .i64 c.verb) := b2.cell 0); (have p1 : w2.cell? ⟨w.heap.size, 1, none⟩ = some (.slice (some ⟨kg, ko, none⟩) c.keys.length kc) := b2.cell 1); (have p2 : w2.cell? ⟨w.heap.size, 2, none⟩ = some (.int .u64 c.flags) := b2.cell 2); (have p3 : w2.cell? ⟨w.heap.size, 3, none⟩ = some (.int .i64 c.exp) := b2.cell 3); (have p4 : w2.cell? ⟨w.heap.size, 4, none⟩ = some (.int .u64 c.tok) := b2.cell 4); (have p5 : w2.cell? ⟨w.heap.size, 5, none⟩ = some (.int .u64 c.del) := b2.cell 5); (have p6 : w2.cell? ⟨w.heap.size, 6, none⟩ = some (.slice da 0 dc) := b2.cell 6); (have p7 : w2.cell? ⟨w.heap.size, 7, none⟩ = some (.bool c.nr) := b2.cell 7); (have p8 : w2.cell? ⟨w.heap.size, 8, none⟩ = some (.bool false) := b2.cell 8); (have p9 : w2.cell? ⟨w.heap.size, 9, none⟩ = some (.slice mo 0 mc) := b2.cell 9); (have p10 : w2.cell? ⟨w.heap.size, 10, none⟩ = some (sv c.what) := b2.cell 10))) | (go_at_call 85; go_must ((with_reducible refine (h12 _ _ hG2 (gb_trans hgA hg2)).mono ?_); rintro e w3 ⟨rfl, hg3⟩; obtain ⟨W4, cc, hcv, hg4, hB4, hs4⟩ := conv_by w3 l (by omega))) | (go_at_call 68; go_must ((with_reducible refine (h10 _ _ _ ((hG2.kept hg3 (by simp)).kept hg4 (by simp)) (gb_trans (gb_trans (gb_trans hgA hg2) hg3) hg4) hB4).mono ?_); rintro e w5 ⟨hL, hg5⟩; (have hgw5 := gb_trans (gb_trans (gb_trans (gb_trans hgA hg2) hg3) hg4) hg5); (have b5 := ((b2.kept hg3 (by simp)).kept hg4 (by simp)).kept hg5 (by simp)); obtain ⟨kv', mv', rfl, kr, mr⟩ := lnp_ok HLS.out HMT.out hL; obtain ⟨ka, kb, rfl, -, -, -, -⟩ := row_shape kr; obtain ⟨ma, mb, rfl⟩ := mr; (have gX := gb_alloc (gb_alloc (gb_refl w5 none) (.cells #[.int .i64 c.verb, .slice ka c.keys.length kb, .int .u64 c.flags, .int .i64 c.exp, .int .u64 c.tok, .int .u64 c.del, .slice none 0 0, .bool c.nr, .bool false, .slice ma 0 mb, sv c.what] 41)) (.cells #[.int .i64 0, .string ⟨#[]⟩, .int .i64 0] 43)); (have s0 : ((w5.alloc (.cells #[.int .i64 c.verb, .slice ka c.keys.length kb, .int .u64 c.flags, .int .i64 c.exp, .int .u64 c.tok, .int .u64 c.del, .slice none 0 0, .bool c.nr, .bool false, .slice ma 0 mb, sv c.what] 41)).alloc (.cells #[.int .i64 0, .string ⟨#[]⟩, .int .i64 0] 43)).cell? ⟨w.heap.size, 0, none⟩ = some (.int .i64 c.verb) := (b5.kept gX (by simp)).cell 0); (have s1 : ((w5.alloc (.cells #[.int .i64 c.verb, .slice ka c.keys.length kb, .int .u64 c.flags, .int .i64 c.exp, .int .u64 c.tok, .int .u64 c.del, .slice none 0 0, .bool c.nr, .bool false, .slice ma 0 mb, sv c.what] 41)).alloc (.cells #[.int .i64 0, .string ⟨#[]⟩, .int .i64 0] 43)).cell? ⟨w.heap.size, 1, none⟩ = some (.slice (some ⟨kg, ko, none⟩) c.keys.length kc) := (b5.kept gX (by simp)).cell 1); (have s2 : ((w5.alloc (.cells #[.int .i64 c.verb, .slice ka c.keys.length kb, .int .u64 c.flags, .int .i64 c.exp, .int .u64 c.tok, .int .u64 c.del, .slice none 0 0, .bool c.nr, .bool false, .slice ma 0 mb, sv c.what] 41)).alloc (.cells #[.int .i64 0, .string ⟨#[]⟩, .int .i64 0] 43)).cell? ⟨w.heap.size, 2, none⟩ = some (.int .u64 c.flags) := (b5.kept gX (by simp)).cell 2); (have s3 : ((w5.alloc (.cells #[.int .i64 c.verb, .slice ka c.keys.length kb, .int .u64 c.flags, .int .i64 c.exp, .int .u64 c.tok, .int .u64 c.del, .slice none 0 0, .bool c.nr, .bool false, .slice ma 0 mb, sv c.what] 41)).alloc (.cells #[.int .i64 0, .string ⟨#[]⟩, .int .i64 0] 43)).cell? ⟨w.heap.size, 3, none⟩ = some (.int .i64 c.exp) := (b5.kept gX (by simp)).cell 3); (have s4 : ((w5.alloc (.cells #[.int .i64 c.verb, .slice ka c.keys.length kb, .int .u64 c.flags, .int .i64 c.exp, .int .u64 c.tok, .int .u64 c.del, .slice none 0 0, .bool c.nr, .bool false, .slice ma 0 mb, sv c.what] 41)).alloc (.cells #[.int .i64 0, .string ⟨#[]⟩, .int .i64 0] 43)).cell? ⟨w.heap.size, 4, none⟩ = some (.int .u64 c.tok) := (b5.kept gX (by simp)).cell 4); (have s5 : ((w5.alloc (.cells #[.int .i64 c.verb, .slice ka c.keys.length kb, .int .u64 c.flags, .int .i64 c.exp, .int .u64 c.tok, .int .u64 c.del, .slice none 0 0, .bool c.nr, .bool false, .slice ma 0 mb, sv c.what] 41)).alloc (.cells #[.int .i64 0, .string ⟨#[]⟩, .int .i64 0] 43)).cell? ⟨w.heap.size, 5, none⟩ = some (.int .u64 c.del) := (b5.kept gX (by simp)).cell 5); (have s6 : ((w5.alloc (.cells #[.int .i64 c.verb, .slice ka c.keys.length kb, .int .u64 c.flags, .int .i64 c.exp, .int .u64 c.tok, .int .u64 c.del, .slice none 0 0, .bool c.nr, .bool false, .slice ma 0 mb, sv c.what] 41)).alloc (.cells #[.int .i64 0, .string ⟨#[]⟩, .int .i64 0] 43)).cell? ⟨w.heap.size, 6, none⟩ = some (.slice da 0 dc) := (b5.kept gX (by simp)).cell 6); (have s7 : ((w5.alloc (.cells #[.int .i64 c.verb, .slice ka c.keys.length kb, .int .u64 c.flags, .int .i64 c.exp, .int .u64 c.tok, .int .u64 c.del, .slice none 0 0, .bool c.nr, .bool false, .slice ma 0 mb, sv c.what] 41)).alloc (.cells #[.int .i64 0, .string ⟨#[]⟩, .int .i64 0] 43)).cell? ⟨w.heap.size, 7, none⟩ = some (.bool c.nr) := (b5.kept gX (by simp)).cell 7); (have s8 : ((w5.alloc (.cells #[.int .i64 c.verb, .slice ka c.keys.length kb, .int .u64 c.flags, .int .i64 c.exp, .int .u64 c.tok, .int .u64 c.del, .slice none 0 0, .bool c.nr, .bool false, .slice ma 0 mb, sv c.what] 41)).alloc (.cells #[.int .i64 0, .string ⟨#[]⟩, .int .i64 0] 43)).cell? ⟨w.heap.size, 8, none⟩ = some (.bool false) := (b5.kept gX (by simp)).cell 8); (have s9 : ((w5.alloc (.cells #[.int .i64 c.verb, .slice ka c.keys.length kb, .int .u64 c.flags, .int .i64 c.exp, .int .u64 c.tok, .int .u64 c.del, .slice none 0 0, .bool c.nr, .bool false, .slice ma 0 mb, sv c.what] 41)).alloc (.cells #[.int .i64 0, .string ⟨#[]⟩, .int .i64 0] 43)).cell? ⟨w.heap.size, 9, none⟩ = some (.slice mo 0 mc) := (b5.kept gX (by simp)).cell 9); (have s10 : ((w5.alloc (.cells #[.int .i64 c.verb, .slice ka c.keys.length kb, .int .u64 c.flags, .int .i64 c.exp, .int .u64 c.tok, .int .u64 c.del, .slice none 0 0, .bool c.nr, .bool false, .slice ma 0 mb, sv c.what] 41)).alloc (.cells #[.int .i64 0, .string ⟨#[]⟩, .int .i64 0] 43)).cell? ⟨w.heap.size, 10, none⟩ = some (sv c.what) := (b5.kept gX (by simp)).cell 10); clear p0 p1 p2 p3 p4 p5 p6 p7 p8 p9 p10 hcv)) | (go_at_call 86; go_must ((with_reducible refine (h13 w5 ka kb ma mb _ hgw5 gX (row_base kr (gb_trans (gb_trans (gb_trans hgA hg2) hg3) hg4).size)).mono ?_); rintro e w7 ⟨rfl, hg7⟩; (have pd : w7.cell? ⟨w.heap.size, 6, none⟩ = some (.slice da 0 dc) := ((b5.kept gX (by simp)).kept hg7 (by simp)).cell 6); obtain ⟨W8, c8, hcv8, hg8, hB8, hs8⟩ := conv_by w7 (l ++ [13, 10]) (by simp; omega))))
  go_ret2
  have hlen : (l ++ ([13, 10] : Bs)).length = l.length + 2 := by simp
  rw [hlen] at hB8
  exact ⟨_, rfl, hB8, gb_trans hgw5 (gb_trans gX (gb_trans hg7 hg8))⟩
end Go.Proofs.YtbbocbdoiealoaaGreatDoor
namespace Go.Proofs.YtbbocbdoiealoaaGreatDoor
open Go.RowKit Go.Shelf Go.Maps
attribute [local go_sem] Oper.semAt_some
theorem ofS_no (v : Int) (h : v < 1 ∨ 24 < v) : ofS v = none := by
  unfold ofS
  rw [List.find?_eq_none]
  intro p hp
  have hv : ∀ p ∈ rowL, 1 ≤ p.2.verb ∧ p.2.verb ≤ 24 := by decide
  have := hv p hp
  simp only [decide_eq_true_eq]
  omega
set_option maxRecDepth 100000 in
set_option maxHeartbeats 4000000 in
theorem spell_no {w : World} {gb : Nat} (hG : GM w gb rowL) {vs : Array Value} {v : Int} (hv : v < 1 ∨ 24 < v) (hv0 : vs[0]? = some (.int .i64 v)) :
    Calls Tryz.prog 85 #[.map (some gb), .agg vs] w fun e w' => e = .returned (.tuple #[sv [], .bool false]) ∧ w.grownBy w' none := by
  have h21 := fun W (hG : GM W gb rowL) => of_21 hG v
  simp only [ofS_no v hv, Option.map_none, Option.getD_none, Option.isSome_none] at h21
  have hgA := gb_alloc (gb_refl w none) (.cells vs 41)
  have hGA := hG.kept hgA (by simp)
  have bA := Box.new w 41 vs
  have p0 : (w.alloc (.cells vs 41)).cell? ⟨w.heap.size, 0, none⟩ = some (.int .i64 v) := (bA.cell 0).trans hv0
  clear hv0
  go_enter Tryz.func85, Tryz.ntmps85
  go_wp2_with (go_at_call 129; go_must ((with_reducible refine (h21 _ hGA).mono ?_); rintro e w2 ⟨rfl, hg2⟩))
  go_ret2
  exact ⟨rfl, gb_trans hgA (gb_alloc hg2 _)⟩
structure WokP (x : CI) (i : Nat) (n : Int) : Prop where
  lt : i < 24
  v : x.c.verb = (i : Int) + 1
  lg : x.lg = false
  l : lineS (lnB i x.c x.d.length) = .inl (x.c, n)
  d : (x.d.length : Int) = max n 0
def wbs (i : Nat) (x : CI) (n : Int) : Bs := lnB i x.c x.d.length ++ [13, 10] ++ (if 0 ≤ n then x.d ++ [13, 10] else [])
def WbP (x : CI) (w : World) (e : Ending) (w' : World) : Prop := w.grownBy w' none ∧ ∃ va vn vc en, e = .returned (.tuple #[.slice va vn vc, .int .i64 en]) ∧ ((en = 7 ∧ va = none ∧ vn = 0 ∧ vc = 0 ∧ ¬ ∃ i n, WokP x i n) ∨ (en = 0 ∧ ∃ i n, WokP x i n ∧ OwC w' w.heap.size (.slice va vn vc) (wbs i x n)))
set_option maxRecDepth 100000 in
set_option maxHeartbeats 4000000 in
theorem wbytes_verb {w : World} {x : CI} (hv : x.c.verb < 1 ∨ 24 < x.c.verb) :
    Calls Tryz.prog 35 #[.agg (ciL x).toArray] w fun e w' => WbP x w e w' := by
  have hno : ¬ ∃ i n, WokP x i n := by
    rintro ⟨i, n, h⟩
    have := h.lt
    have := h.v
    omega
  obtain ⟨vs, hvs⟩ : ∃ vs, (ciL x).toArray = vs := ⟨_, rfl⟩
  have hvl : vs.toList.length = 11 := by rw [← hvs]; rfl
  have hv0 : vs[0]? = some (.int .i64 x.c.verb) := by rw [← hvs]; rfl
  rw [hvs]
  have b1 := Box.new w 41 vs
  have gA := gb_alloc (gb_refl w none) (.cells vs 41)
  have h62 := rows_9 (w.alloc (.cells vs 41))
  simp only [World.size_alloc] at h62
  have h80 := fun W gb (hG : GM W gb rowL) => spell_no hG hv hv0
  have HNO := Lib.hid hno
  clear hno hvs hv0
  go_enter Tryz.func35, Tryz.ntmps35
  go_wp2_with (first
    | (go_at_call 67; go_must ((with_reducible refine h62.mono ?_); rintro e w2 ⟨rfl, hG2, g2⟩; have b2 := b1.kept g2 (by simp)))
    | (refine atL 41 w.heap.size 0 rfl rfl ?_; go_must (refine load41 rfl _ rfl 41 w.heap.size 0 _ b2 rfl vs.toList hvl (fun j v hv => by simpa using hv) ?_))
    | (go_at_call 85; go_must ((with_reducible refine (h80 _ _ hG2).mono ?_); rintro e w3 ⟨rfl, g3⟩)))
  go_ret2
  exact ⟨gb_trans gA (gb_trans g2 g3), none, 0, 0, 7, rfl, .inl ⟨rfl, rfl, rfl, rfl, HNO.out⟩⟩
set_option maxRecDepth 100000 in
set_option maxHeartbeats 8000000 in
theorem wbytes_wrong {w : World} (hE : Er w) (hp : Pw w) {x : CI} (h : CiOk w x) (hkn : x.c.keys.length ≤ 10000000) (hmn : x.c.mt.length ≤ 10000000) (hfl : ∀ f ∈ x.c.mt, f.arg.length ≤ 1099511627776) {i : Nat} (hi : i < 24) (hv : x.c.verb = (i : Int) + 1) (hL : (lnB i x.c x.d.length).length ≤ 1000000000) {k : Int} {t : Bs} {p : Int} (hls : lineS (lnB i x.c x.d.length) = .inr (k, t, p)) :
    Calls Tryz.prog 35 #[.agg (ciL x).toArray] w fun e w' => WbP x w e w' := by
  have hno : ¬ ∃ i n, WokP x i n := by
    rintro ⟨j, n, hj⟩
    have e : j = i := by have := hj.v; omega
    subst e
    have := hj.l
    rw [hls] at this
    cases this
  have hk0 : k ≠ 0 := (lineS_no hls).2
  obtain ⟨da, dc, hdv⟩ := h.dsl
  have h80 := fun W gb (hG : GM W gb rowL) (hW : w.grownBy W none) => spell_80 hG hi x.c hv h.r h.f x.d.length (by have := h.dn; omega) (kv := x.kv) (mv := x.mv) (lg := x.lg) (da := da) (dc := dc) (hp.kept hW) (h.k.kept0 hW) (h.m.kept hW) hkn hmn hfl (by omega)
  obtain ⟨LN, hLN⟩ : ∃ y, lnB i x.c x.d.length = y := ⟨_, rfl⟩
  simp only [hLN] at h80
  rw [hLN] at hls hL
  have h63 := fun W gb v (hG : GM W gb rowL) (hg : w.grownBy W none) (hB : By W v LN) => (line_10 hG (hE.kept hg) v LN hB).mono (P := Tryz.prog) (fun e w' (hh : LnP LN W e w') => show e = .returned (.tuple #[.agg (Z31 0 false), .int .i64 (-1), .agg #[.int .i64 k, sv t, .int .i64 p]]) ∧ W.grownBy w' none by
    obtain ⟨h1 | ⟨k', t', p', h1, h2⟩, h3⟩ := hh
    · obtain ⟨c', n', kv', mv', h1, -⟩ := h1
      rw [hls] at h1
      cases h1
    · rw [hls] at h1
      injection h1 with h1
      injection h1 with e1 e2
      injection e2 with e2 e3
      subst e1 e2 e3
      exact ⟨h2, h3⟩)
  obtain ⟨vs, hvs⟩ : ∃ vs, cmB x.c x.kv (.slice da x.d.length dc) x.mv x.lg = vs := ⟨_, rfl⟩
  have hvs2 : (ciL x).toArray = vs := by rw [← hvs, ← hdv]
  have hvl : vs.toList.length = 11 := by rw [← hvs]; rfl
  simp only [hvs] at h80
  rw [hvs2]
  have b1 := Box.new w 41 vs
  have gA := gb_alloc (gb_refl w none) (.cells vs 41)
  have h62 := rows_9 (w.alloc (.cells vs 41))
  simp only [World.size_alloc] at h62
  have HNO := Lib.hid hno
  clear hno hvs hvs2 hdv h hp hE hfl hls hLN
  have hk1 : (k != 0) = true := by simpa using hk0
  go_enter Tryz.func35, Tryz.ntmps35
  go_wp2_with (first
    | (go_at_call 67; go_must ((with_reducible refine h62.mono ?_); rintro e w2 ⟨rfl, hG2, g2⟩; have b2 := b1.kept g2 (by simp)))
    | (refine atL 41 w.heap.size 0 rfl rfl ?_; go_must (refine load41 rfl _ rfl 41 w.heap.size 0 _ b2 rfl vs.toList hvl (fun j v hv => by simpa using hv) ?_))
    | (go_at_call 85; go_must ((with_reducible refine (h80 _ _ hG2 (gb_trans gA g2)).mono ?_); rintro e w3 ⟨rfl, g3⟩; obtain ⟨W4, cc, hcv, g4, hB4, hs4⟩ := conv_by w3 LN (by omega); clear hs4))
    | (go_at_call 68; go_must ((with_reducible refine (h63 _ _ _ ((hG2.kept g3 (by simp)).kept g4 (by simp)) (gb_trans (gb_trans (gb_trans gA g2) g3) g4) hB4).mono ?_); rintro e w5 ⟨rfl, g5⟩)))
  all_goals first
    | contradiction
    | (go_ret2; exact ⟨gb_trans (gb_trans (gb_trans (gb_trans gA g2) g3) g4) (gb_alloc (gb_alloc g5 _) _), none, 0, 0, 7, rfl, .inl ⟨rfl, rfl, rfl, rfl, HNO.out⟩⟩)
end Go.Proofs.YtbbocbdoiealoaaGreatDoor
