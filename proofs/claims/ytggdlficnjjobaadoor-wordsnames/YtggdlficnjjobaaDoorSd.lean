/-
  Bytes of a command.
-/
import Derived.Lib.ConvBytes
import Derived.Test.YtggdlficnjjobaaDoorSc
namespace Go.Proofs.YtggdlficnjjobaaDoor
open Go.RowKit Go.Shelf
set_option linter.unusedVariables false
set_option linter.unusedSimpArgs false

/-- []byte(s). -/
theorem conv_by (w : World) (l : Bs) (hl : l.length ≤ 1099511627776) : ∃ W c, (convert 9 28 (sv l)).run Tryd.prog w = .ok (.slice (some ⟨w.heap.size, 0, none⟩) l.length c) W ∧ w.grownBy W none ∧ By W (.slice (some ⟨w.heap.size, 0, none⟩) l.length c) l ∧ W.heap.size = w.heap.size + 1 := by
  have hr := Lib.run_convert_string_bytes (P := Tryd.prog) w 9 28 5 ⟨l.toArray⟩ Tryd.underlying9 Tryd.underlying28 Tryd.underlying5
  rw [ba_size] at hr
  refine ⟨_, _, hr, gb_below (Lib.bytesWorld_below _ _ _), .inr ⟨w.heap.size, 0, _, rfl, hl, by rw [Lib.bytesWorld_size]; omega, fun i x hx => ?_⟩, Lib.bytesWorld_size _ _ _⟩
  have hi : i < l.length := (List.getElem?_eq_some_iff.1 hx).1
  rw [Nat.zero_add, Lib.bytesWorld_cell w 5 _ i (by rw [ba_size]; exact hi)]
  show some (Value.int .u8 ((l.getD i 0).toNat : Int)) = _
  rw [List.getD, hx]; rfl
theorem ws_row {w : World} {B n : Nat} {v : Value} {ws : List Bs} (h : w.ownsRow B 9 1 v n (ws.map sv)) (hn : ws.length = n) : Ws w v ws := by
  obtain ⟨ao, c, rfl, _, h2, _, h4⟩ := row_shape h
  rcases Nat.eq_zero_or_pos n with h0 | h0
  · subst h0; exact .inl ⟨List.length_eq_zero_iff.1 hn, _, _, rfl⟩
  · obtain ⟨g, rfl⟩ := h4 h0
    obtain ⟨cur, hcur⟩ := row_block h g rfl
    exact .inr ⟨g, 0, c, by rw [hn], by omega, lt_of_block hcur, fun i x hx => by rw [Nat.zero_add]; exact row_cell h i _ (by rw [List.getElem?_map, hx]; rfl)⟩
theorem lnp_ok {l : Bs} {w w' : World} {e : Ending} {c : Cmd} (hls : lineS l = .inl (c, -1)) (hmt : c.mt = [])
    (hL : (∃ c n kv mv, lineS l = .inl (c, n) ∧ e = .returned (.tuple #[.agg (cmA c kv mv), .int .i64 n, .agg #[.int .i64 0, sv [], .int .i64 0]]) ∧ w'.ownsRow w.heap.size 9 1 kv c.keys.length (c.keys.map sv) ∧ w'.ownsRow w.heap.size 43 3 mv c.mt.length (fcs c.mt)) ∨
      ∃ k t p, lineS l = .inr (k, t, p) ∧ e = .returned (.tuple #[.agg (Z31 0 false), .int .i64 (-1), .agg #[.int .i64 k, sv t, .int .i64 p]])) :
    ∃ kv mv, e = .returned (.tuple #[.agg (cmA c kv mv), .int .i64 (-1), .agg #[.int .i64 0, sv [], .int .i64 0]]) ∧ w'.ownsRow w.heap.size 9 1 kv c.keys.length (c.keys.map sv) ∧ ∃ a b, mv = .slice a 0 b := by
  rcases hL with ⟨c', n, kv, mv, h1, h2, h3, h4⟩ | ⟨k, t, p, h1, _⟩
  · rw [hls] at h1
    injection h1 with h1
    injection h1 with h5 h6
    subst h5 h6
    refine ⟨kv, mv, h2, h3, ?_⟩
    rw [hmt] at h4
    obtain ⟨a, b, h5, _⟩ := row_shape h4
    exact ⟨a, b, h5⟩
  · rw [hls] at h1; cases h1
set_option maxRecDepth 100000 in
set_option maxHeartbeats 4000000 in
theorem bytes_8 {w : World} (hE : Er w) (c : Cmd) (nm : Bs) (hof : ofS c.verb = some (nm, ⟨c.verb, [75], [75], true, false⟩)) (hnr : c.nr = false) (hmt : c.mt = []) (kg ko kc dc mc : Nat) (da mo : Option Addr) (hks : c.keys ≠ []) (hkl : c.keys.length ≤ 1000000) (hkcap : c.keys.length ≤ kc) (hkg : kg < w.heap.size) (hkc : ∀ i x, c.keys[i]? = some x → w.cell? ⟨kg, ko + i, none⟩ = some (sv x)) (hl : (Lib.join (nm :: c.keys) [32]).length ≤ 1000000) (hls : lineS (Lib.join (nm :: c.keys) [32]) = .inl (c, -1)) :
    Calls Tryd.prog 8 #[.agg (cmB c (.slice (some ⟨kg, ko, none⟩) c.keys.length kc) (.slice da 0 dc) (.slice mo 0 mc) false)] w fun e w' => ∃ v, e = .returned (.tuple #[v, .int .i64 0]) ∧ By w' v (Lib.join (nm :: c.keys) [32] ++ [13, 10]) ∧ w.grownBy w' none := by
  obtain ⟨l, hll⟩ : ∃ l, Lib.join (nm :: c.keys) [32] = l := ⟨_, rfl⟩
  have hgA := gb_alloc (gb_refl w none) (.cells (cmB c (.slice (some ⟨kg, ko, none⟩) c.keys.length kc) (.slice da 0 dc) (.slice mo 0 mc) false) 31)
  have bA := Box.new w 31 (cmB c (.slice (some ⟨kg, ko, none⟩) c.keys.length kc) (.slice da 0 dc) (.slice mo 0 mc) false)
  have h9 := rows_9 (w.alloc (.cells (cmB c (.slice (some ⟨kg, ko, none⟩) c.keys.length kc) (.slice da 0 dc) (.slice mo 0 mc) false) 31))
  simp only [World.size_alloc] at h9
  have h12 := fun W gb (hG : GM W gb rowL) (hg : w.grownBy W none) => spell_12 hG c nm hof hnr kg ko kc da mo 0 dc 0 mc false hks hkl (Nat.lt_of_lt_of_le hkg hg.size) (fun i x hx => gb_cellN hg (hkc i x hx)) (by omega)
  rw [hll] at h12 hls hl ⊢
  have h10 := fun W gb v (hG : GM W gb rowL) (hg : w.grownBy W none) (hB : By W v l) => line_10 hG (hE.kept hg) v l hB
  have h13 : ∀ (w5 : World) (ka : Option Addr) (kb : Nat) (ma : Option Addr) (mb : Nat) (W : World), w.grownBy w5 none → w5.grownBy W none → w5.ownsRow w.heap.size 9 1 (.slice ka c.keys.length kb) c.keys.length (c.keys.map sv) → Calls Tryd.prog 13 #[.agg #[.int .i64 c.verb, .slice ka c.keys.length kb, .int .u64 c.flags, .int .i64 c.exp, .int .u64 c.tok, .int .u64 c.del, .slice none 0 0, .bool c.nr, .bool false, .slice ma 0 mb, sv c.what], .agg #[.int .i64 c.verb, .slice (some ⟨kg, ko, none⟩) c.keys.length kc, .int .u64 c.flags, .int .i64 c.exp, .int .u64 c.tok, .int .u64 c.del, .slice da 0 dc, .bool c.nr, .bool false, .slice mo 0 mc, sv c.what]] W fun e w' => e = .returned (.bool true) ∧ W.grownBy w' none := fun w5 ka kb ma mb W h1 h2 h3 =>
    same_13 c _ _ _ _ _ _ ((ws_row h3 rfl).kept h2) (.inr ⟨kg, ko, kc, rfl, hkcap, Nat.lt_of_lt_of_le hkg (gb_trans h1 h2).size, fun i x hx => gb_cellN (gb_trans h1 h2) (hkc i x hx)⟩) (by omega) ⟨_, _, rfl⟩ ⟨_, _, rfl⟩ ⟨_, _, _, rfl⟩ ⟨_, _, _, rfl⟩
  have hcat : (ByteArray.mk l.toArray ++ ByteArray.mk #[13, 10]) = ⟨(l ++ [13, 10]).toArray⟩ := ba_app l [13, 10]
  have HNR := Lib.hid hnr
  have HMT := Lib.hid hmt
  have HLS := Lib.hid hls
  clear hll hnr hmt hls hof
  go_enter Tryd.func8, Tryd.ntmps8
  go_wp2_with (first | (go_at_call 9; go_must ((with_reducible refine h9.mono ?_); rintro e w2 ⟨rfl, hG2, hg2⟩; (have b2 := bA.kept hg2 (by simp)); (have p0 : w2.cell? ⟨w.heap.size, 0, none⟩ = some (.int .i64 c.verb) := b2.cell 0); (have p1 : w2.cell? ⟨w.heap.size, 1, none⟩ = some (.slice (some ⟨kg, ko, none⟩) c.keys.length kc) := b2.cell 1); (have p2 : w2.cell? ⟨w.heap.size, 2, none⟩ = some (.int .u64 c.flags) := b2.cell 2); (have p3 : w2.cell? ⟨w.heap.size, 3, none⟩ = some (.int .i64 c.exp) := b2.cell 3); (have p4 : w2.cell? ⟨w.heap.size, 4, none⟩ = some (.int .u64 c.tok) := b2.cell 4); (have p5 : w2.cell? ⟨w.heap.size, 5, none⟩ = some (.int .u64 c.del) := b2.cell 5); (have p6 : w2.cell? ⟨w.heap.size, 6, none⟩ = some (.slice da 0 dc) := b2.cell 6); (have p7 : w2.cell? ⟨w.heap.size, 7, none⟩ = some (.bool c.nr) := b2.cell 7); (have p8 : w2.cell? ⟨w.heap.size, 8, none⟩ = some (.bool false) := b2.cell 8); (have p9 : w2.cell? ⟨w.heap.size, 9, none⟩ = some (.slice mo 0 mc) := b2.cell 9); (have p10 : w2.cell? ⟨w.heap.size, 10, none⟩ = some (sv c.what) := b2.cell 10))) | (go_at_call 12; go_must ((with_reducible refine (h12 _ _ hG2 (gb_trans hgA hg2)).mono ?_); rintro e w3 ⟨rfl, hg3⟩; obtain ⟨W4, cc, hcv, hg4, hB4, hs4⟩ := conv_by w3 l (by omega))) | (go_at_call 10; go_must ((with_reducible refine (h10 _ _ _ ((hG2.kept hg3 (by simp)).kept hg4 (by simp)) (gb_trans (gb_trans (gb_trans hgA hg2) hg3) hg4) hB4).mono ?_); rintro e w5 ⟨hL, hg5⟩; (have hgw5 := gb_trans (gb_trans (gb_trans (gb_trans hgA hg2) hg3) hg4) hg5); (have b5 := ((b2.kept hg3 (by simp)).kept hg4 (by simp)).kept hg5 (by simp)); obtain ⟨kv', mv', rfl, kr, mr⟩ := lnp_ok HLS.out HMT.out hL; obtain ⟨ka, kb, rfl, -, -, -, -⟩ := row_shape kr; obtain ⟨ma, mb, rfl⟩ := mr; (have gX := gb_alloc (gb_alloc (gb_refl w5 none) (.cells #[.int .i64 c.verb, .slice ka c.keys.length kb, .int .u64 c.flags, .int .i64 c.exp, .int .u64 c.tok, .int .u64 c.del, .slice none 0 0, .bool c.nr, .bool false, .slice ma 0 mb, sv c.what] 31)) (.cells #[.int .i64 0, .string ⟨#[]⟩, .int .i64 0] 33)); (have s0 : ((w5.alloc (.cells #[.int .i64 c.verb, .slice ka c.keys.length kb, .int .u64 c.flags, .int .i64 c.exp, .int .u64 c.tok, .int .u64 c.del, .slice none 0 0, .bool c.nr, .bool false, .slice ma 0 mb, sv c.what] 31)).alloc (.cells #[.int .i64 0, .string ⟨#[]⟩, .int .i64 0] 33)).cell? ⟨w.heap.size, 0, none⟩ = some (.int .i64 c.verb) := (b5.kept gX (by simp)).cell 0); (have s1 : ((w5.alloc (.cells #[.int .i64 c.verb, .slice ka c.keys.length kb, .int .u64 c.flags, .int .i64 c.exp, .int .u64 c.tok, .int .u64 c.del, .slice none 0 0, .bool c.nr, .bool false, .slice ma 0 mb, sv c.what] 31)).alloc (.cells #[.int .i64 0, .string ⟨#[]⟩, .int .i64 0] 33)).cell? ⟨w.heap.size, 1, none⟩ = some (.slice (some ⟨kg, ko, none⟩) c.keys.length kc) := (b5.kept gX (by simp)).cell 1); (have s2 : ((w5.alloc (.cells #[.int .i64 c.verb, .slice ka c.keys.length kb, .int .u64 c.flags, .int .i64 c.exp, .int .u64 c.tok, .int .u64 c.del, .slice none 0 0, .bool c.nr, .bool false, .slice ma 0 mb, sv c.what] 31)).alloc (.cells #[.int .i64 0, .string ⟨#[]⟩, .int .i64 0] 33)).cell? ⟨w.heap.size, 2, none⟩ = some (.int .u64 c.flags) := (b5.kept gX (by simp)).cell 2); (have s3 : ((w5.alloc (.cells #[.int .i64 c.verb, .slice ka c.keys.length kb, .int .u64 c.flags, .int .i64 c.exp, .int .u64 c.tok, .int .u64 c.del, .slice none 0 0, .bool c.nr, .bool false, .slice ma 0 mb, sv c.what] 31)).alloc (.cells #[.int .i64 0, .string ⟨#[]⟩, .int .i64 0] 33)).cell? ⟨w.heap.size, 3, none⟩ = some (.int .i64 c.exp) := (b5.kept gX (by simp)).cell 3); (have s4 : ((w5.alloc (.cells #[.int .i64 c.verb, .slice ka c.keys.length kb, .int .u64 c.flags, .int .i64 c.exp, .int .u64 c.tok, .int .u64 c.del, .slice none 0 0, .bool c.nr, .bool false, .slice ma 0 mb, sv c.what] 31)).alloc (.cells #[.int .i64 0, .string ⟨#[]⟩, .int .i64 0] 33)).cell? ⟨w.heap.size, 4, none⟩ = some (.int .u64 c.tok) := (b5.kept gX (by simp)).cell 4); (have s5 : ((w5.alloc (.cells #[.int .i64 c.verb, .slice ka c.keys.length kb, .int .u64 c.flags, .int .i64 c.exp, .int .u64 c.tok, .int .u64 c.del, .slice none 0 0, .bool c.nr, .bool false, .slice ma 0 mb, sv c.what] 31)).alloc (.cells #[.int .i64 0, .string ⟨#[]⟩, .int .i64 0] 33)).cell? ⟨w.heap.size, 5, none⟩ = some (.int .u64 c.del) := (b5.kept gX (by simp)).cell 5); (have s6 : ((w5.alloc (.cells #[.int .i64 c.verb, .slice ka c.keys.length kb, .int .u64 c.flags, .int .i64 c.exp, .int .u64 c.tok, .int .u64 c.del, .slice none 0 0, .bool c.nr, .bool false, .slice ma 0 mb, sv c.what] 31)).alloc (.cells #[.int .i64 0, .string ⟨#[]⟩, .int .i64 0] 33)).cell? ⟨w.heap.size, 6, none⟩ = some (.slice da 0 dc) := (b5.kept gX (by simp)).cell 6); (have s7 : ((w5.alloc (.cells #[.int .i64 c.verb, .slice ka c.keys.length kb, .int .u64 c.flags, .int .i64 c.exp, .int .u64 c.tok, .int .u64 c.del, .slice none 0 0, .bool c.nr, .bool false, .slice ma 0 mb, sv c.what] 31)).alloc (.cells #[.int .i64 0, .string ⟨#[]⟩, .int .i64 0] 33)).cell? ⟨w.heap.size, 7, none⟩ = some (.bool c.nr) := (b5.kept gX (by simp)).cell 7); (have s8 : ((w5.alloc (.cells #[.int .i64 c.verb, .slice ka c.keys.length kb, .int .u64 c.flags, .int .i64 c.exp, .int .u64 c.tok, .int .u64 c.del, .slice none 0 0, .bool c.nr, .bool false, .slice ma 0 mb, sv c.what] 31)).alloc (.cells #[.int .i64 0, .string ⟨#[]⟩, .int .i64 0] 33)).cell? ⟨w.heap.size, 8, none⟩ = some (.bool false) := (b5.kept gX (by simp)).cell 8); (have s9 : ((w5.alloc (.cells #[.int .i64 c.verb, .slice ka c.keys.length kb, .int .u64 c.flags, .int .i64 c.exp, .int .u64 c.tok, .int .u64 c.del, .slice none 0 0, .bool c.nr, .bool false, .slice ma 0 mb, sv c.what] 31)).alloc (.cells #[.int .i64 0, .string ⟨#[]⟩, .int .i64 0] 33)).cell? ⟨w.heap.size, 9, none⟩ = some (.slice mo 0 mc) := (b5.kept gX (by simp)).cell 9); (have s10 : ((w5.alloc (.cells #[.int .i64 c.verb, .slice ka c.keys.length kb, .int .u64 c.flags, .int .i64 c.exp, .int .u64 c.tok, .int .u64 c.del, .slice none 0 0, .bool c.nr, .bool false, .slice ma 0 mb, sv c.what] 31)).alloc (.cells #[.int .i64 0, .string ⟨#[]⟩, .int .i64 0] 33)).cell? ⟨w.heap.size, 10, none⟩ = some (sv c.what) := (b5.kept gX (by simp)).cell 10); clear p0 p1 p2 p3 p4 p5 p6 p7 p8 p9 p10 hcv)) | (go_at_call 13; go_must ((with_reducible refine (h13 w5 ka kb ma mb _ hgw5 gX (row_base kr (gb_trans (gb_trans (gb_trans hgA hg2) hg3) hg4).size)).mono ?_); rintro e w7 ⟨rfl, hg7⟩; (have pd : w7.cell? ⟨w.heap.size, 6, none⟩ = some (.slice da 0 dc) := ((b5.kept gX (by simp)).kept hg7 (by simp)).cell 6); obtain ⟨W8, c8, hcv8, hg8, hB8, hs8⟩ := conv_by w7 (l ++ [13, 10]) (by simp; omega))))
  go_ret2
  have hlen : (l ++ ([13, 10] : Bs)).length = l.length + 2 := by simp
  rw [hlen] at hB8
  exact ⟨_, rfl, hB8, gb_trans hgw5 (gb_trans gX (gb_trans hg7 hg8))⟩
end Go.Proofs.YtggdlficnjjobaaDoor
