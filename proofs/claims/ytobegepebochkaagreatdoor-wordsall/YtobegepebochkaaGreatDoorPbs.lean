import Derived.Test.YtobegepebochkaaGreatDoorSb
import Derived.Lib.ConvBytes
set_option linter.unusedVariables false
set_option linter.unusedSimpArgs false
namespace Go.Proofs.YtobegepebochkaaGreatDoor
open Go.RowKit Go.Shelf
set_option maxRecDepth 100000 in
set_option maxHeartbeats 4000000 in
theorem equal_25 {w : World} {u v : Value} {ws : List Bs} (hu : Ws w u ws) (hv : Ws w v ws) (hn : ws.length ≤ 1000000000) :
    Calls Tryz.prog 128 #[u, v] w fun e w' => e = .returned (.bool true) ∧ w.grownBy w' none := by
  obtain ⟨n, hnn⟩ : ∃ n, ws.length = n := ⟨_, rfl⟩
  have hcu : ∃ a c, u = .slice a n c ∧ ∀ i x, ws[i]? = some x → ∃ g o, a = some ⟨g, o, none⟩ ∧ w.cell? ⟨g, o + i, none⟩ = some (sv x) := by
    rcases hu with ⟨rfl, a, c, rfl⟩ | ⟨g, o, c, rfl, _, _, h⟩
    · exact ⟨a, c, by rw [← hnn]; rfl, fun i x hx => by simp at hx⟩
    · exact ⟨_, c, by rw [hnn], fun i x hx => ⟨g, o, rfl, h i x hx⟩⟩
  have hcv : ∃ a c, v = .slice a n c ∧ ∀ i x, ws[i]? = some x → ∃ g o, a = some ⟨g, o, none⟩ ∧ w.cell? ⟨g, o + i, none⟩ = some (sv x) := by
    rcases hv with ⟨rfl, a, c, rfl⟩ | ⟨g, o, c, rfl, _, _, h⟩
    · exact ⟨a, c, by rw [← hnn]; rfl, fun i x hx => by simp at hx⟩
    · exact ⟨_, c, by rw [hnn], fun i x hx => ⟨g, o, rfl, h i x hx⟩⟩
  obtain ⟨ua, uc, rfl, hcu⟩ := hcu
  obtain ⟨va, vc, rfl, hcv⟩ := hcv
  clear hu hv
  go_enter Tryz.func128, Tryz.ntmps128
  go_wp2
  go_loopw [13] (fun x wr => ∃ k : Nat, k ≤ n ∧ x = .int .i64 k ∧ w.grownBy wr none) (fun x _ => n - (intOf x).toNat)
  case atStart => exact ⟨0, by omega, rfl, gb_refl _ _⟩
  case round =>
    obtain ⟨k, hk, rfl, hg⟩ := hrel
    rcases (by omega : k < n ∨ k = n) with hlt | rfl
    · obtain ⟨x, hx⟩ : ∃ x, ws[k]? = some x := ⟨_, List.getElem?_eq_getElem (by omega)⟩
      obtain ⟨g1, o1, rfl, c1⟩ := hcu k x hx
      obtain ⟨g2, o2, rfl, c2⟩ := hcv k x hx
      have c1 := gb_cellN hg c1
      have c2 := gb_cellN hg c2
      have d1 : ((k : Int) < (n : Int)) := by omega
      clear hcu hcv
      go_wp2
      go_quiet (fail)
      go_wp2
      refine ⟨⟨k + 1, by omega, by simp, gb_drewN hg _⟩, by simp [intOf]; omega⟩
    · have d1 : decide ((k : Int) < (k : Int)) = false := decide_eq_false (by omega)
      go_wp2
      go_ret
      exact ⟨rfl, hg⟩
set_option maxRecDepth 100000 in
set_option maxHeartbeats 4000000 in
theorem equalF_nil (a b : Option Addr) (c d : Nat) (w : World) :
    Calls Tryz.prog 129 #[.slice a 0 c, .slice b 0 d] w fun e w' => e = .returned (.bool true) ∧ w.grownBy w' none := by
  go_enter Tryz.func129, Tryz.ntmps129
  go_wp2
  go_loopw [13] (fun x wr => x = .int .i64 0 ∧ wr = w) (fun _ _ => 0)
  case atStart => exact ⟨rfl, rfl⟩
  case round =>
    obtain ⟨rfl, rfl⟩ := hrel
    go_wp2
    go_ret
    exact ⟨rfl, gb_refl _ _⟩
set_option maxRecDepth 100000 in
set_option maxHeartbeats 4000000 in
theorem same_13 {w : World} (c : Cmd) (kv kv' dv dv' mv mv' : Value) (hk : Ws w kv c.keys) (hk' : Ws w kv' c.keys) (hn : c.keys.length ≤ 1000000000) (hm : ∃ a c', mv = .slice a 0 c') (hm' : ∃ a c', mv' = .slice a 0 c') (hd : ∃ a n c', dv = .slice a n c') (hd' : ∃ a n c', dv' = .slice a n c') :
    Calls Tryz.prog 81 #[.agg (cmB c kv dv mv false), .agg (cmB c kv' dv' mv' false)] w fun e w' => e = .returned (.bool true) ∧ w.grownBy w' none := by
  have hks : ∃ a n c', kv = .slice a n c' := by
    rcases hk with ⟨_, a, c, rfl⟩ | ⟨g, o, c, rfl, _⟩ <;> exact ⟨_, _, _, rfl⟩
  have hks' : ∃ a n c', kv' = .slice a n c' := by
    rcases hk' with ⟨_, a, c, rfl⟩ | ⟨g, o, c, rfl, _⟩ <;> exact ⟨_, _, _, rfl⟩
  obtain ⟨a1, n1, c1, rfl⟩ := hks
  obtain ⟨a2, n2, c2, rfl⟩ := hks'
  obtain ⟨a3, c3, rfl⟩ := hm
  obtain ⟨a4, c4, rfl⟩ := hm'
  obtain ⟨a5, n5, c5, rfl⟩ := hd
  obtain ⟨a6, n6, c6, rfl⟩ := hd'
  have h25 := fun W (hg : w.grownBy W none) => equal_25 (hk.kept hg) (hk'.kept hg) hn
  have h26 := fun W => equalF_nil a3 a4 c3 c4 W
  have b1 := Box.new w 41 (cmB c (.slice a1 n1 c1) (.slice a5 n5 c5) (.slice a3 0 c3) false)
  have b2 := Box.new (w.alloc (.cells (cmB c (.slice a1 n1 c1) (.slice a5 n5 c5) (.slice a3 0 c3) false) 41)) 41 (cmB c (.slice a2 n2 c2) (.slice a6 n6 c6) (.slice a4 0 c4) false)
  simp only [World.size_alloc] at b2
  have gA := gb_alloc (gb_refl (w.alloc (.cells (cmB c (.slice a1 n1 c1) (.slice a5 n5 c5) (.slice a3 0 c3) false) 41)) none) (.cells (cmB c (.slice a2 n2 c2) (.slice a6 n6 c6) (.slice a4 0 c4) false) 41)
  have gW := gb_trans (gb_alloc (gb_refl w none) (.cells (cmB c (.slice a1 n1 c1) (.slice a5 n5 c5) (.slice a3 0 c3) false) 41)) gA
  go_enter Tryz.func81, Tryz.ntmps81
  go_wp2_with (first | (go_at_call 128; go_must ((with_reducible refine (h25 _ gW).mono ?_); rintro e w3 ⟨rfl, hg3⟩; (have z1 := (b1.kept gA (by simp)).kept hg3 (by simp)); (have z2 := b2.kept hg3 (by simp)); (have p0 : w3.cell? ⟨w.heap.size, 0, none⟩ = some (.int .i64 c.verb) := z1.cell 0); (have p1 : w3.cell? ⟨w.heap.size, 1, none⟩ = some (.slice a1 n1 c1) := z1.cell 1); (have p2 : w3.cell? ⟨w.heap.size, 2, none⟩ = some (.int .u64 c.flags) := z1.cell 2); (have p3 : w3.cell? ⟨w.heap.size, 3, none⟩ = some (.int .i64 c.exp) := z1.cell 3); (have p4 : w3.cell? ⟨w.heap.size, 4, none⟩ = some (.int .u64 c.tok) := z1.cell 4); (have p5 : w3.cell? ⟨w.heap.size, 5, none⟩ = some (.int .u64 c.del) := z1.cell 5); (have p6 : w3.cell? ⟨w.heap.size, 6, none⟩ = some (.slice a5 n5 c5) := z1.cell 6); (have p7 : w3.cell? ⟨w.heap.size, 7, none⟩ = some (.bool c.nr) := z1.cell 7); (have p8 : w3.cell? ⟨w.heap.size, 8, none⟩ = some (.bool false) := z1.cell 8); (have p9 : w3.cell? ⟨w.heap.size, 9, none⟩ = some (.slice a3 0 c3) := z1.cell 9); (have p10 : w3.cell? ⟨w.heap.size, 10, none⟩ = some (sv c.what) := z1.cell 10); (have q0 : w3.cell? ⟨w.heap.size + 1, 0, none⟩ = some (.int .i64 c.verb) := z2.cell 0); (have q1 : w3.cell? ⟨w.heap.size + 1, 1, none⟩ = some (.slice a2 n2 c2) := z2.cell 1); (have q2 : w3.cell? ⟨w.heap.size + 1, 2, none⟩ = some (.int .u64 c.flags) := z2.cell 2); (have q3 : w3.cell? ⟨w.heap.size + 1, 3, none⟩ = some (.int .i64 c.exp) := z2.cell 3); (have q4 : w3.cell? ⟨w.heap.size + 1, 4, none⟩ = some (.int .u64 c.tok) := z2.cell 4); (have q5 : w3.cell? ⟨w.heap.size + 1, 5, none⟩ = some (.int .u64 c.del) := z2.cell 5); (have q6 : w3.cell? ⟨w.heap.size + 1, 6, none⟩ = some (.slice a6 n6 c6) := z2.cell 6); (have q7 : w3.cell? ⟨w.heap.size + 1, 7, none⟩ = some (.bool c.nr) := z2.cell 7); (have q8 : w3.cell? ⟨w.heap.size + 1, 8, none⟩ = some (.bool false) := z2.cell 8); (have q9 : w3.cell? ⟨w.heap.size + 1, 9, none⟩ = some (.slice a4 0 c4) := z2.cell 9); (have q10 : w3.cell? ⟨w.heap.size + 1, 10, none⟩ = some (sv c.what) := z2.cell 10))) | (go_at_call 129; go_must ((with_reducible refine (h26 _).mono ?_); rintro e w4 ⟨rfl, hg4⟩; (have y1 : w4.cell? ⟨w.heap.size, 10, none⟩ = some (sv c.what) := (z1.kept hg4 (by simp)).cell 10); (have y2 : w4.cell? ⟨w.heap.size + 1, 10, none⟩ = some (sv c.what) := (z2.kept hg4 (by simp)).cell 10))))
  go_ret
  exact ⟨rfl, gb_trans gW (gb_trans hg3 hg4)⟩
end Go.Proofs.YtobegepebochkaaGreatDoor
namespace Go.Proofs.YtobegepebochkaaGreatDoor
open Go.RowKit Go.Shelf
theorem conv_by (w : World) (l : Bs) (hl : l.length ≤ 1099511627776) : ∃ W c, (convert 9 38 (sv l)).run Tryz.prog w = .ok (.slice (some ⟨w.heap.size, 0, none⟩) l.length c) W ∧ w.grownBy W none ∧ By W (.slice (some ⟨w.heap.size, 0, none⟩) l.length c) l ∧ W.heap.size = w.heap.size + 1 := by
  have hr := Lib.run_convert_string_bytes (P := Tryz.prog) w 9 38 5 ⟨l.toArray⟩ Tryz.underlying9 Tryz.underlying38 Tryz.underlying5
  rw [ba_size] at hr
  refine ⟨_, _, hr, gb_below (Lib.bytesWorld_below _ _ _), .inr ⟨w.heap.size, 0, _, rfl, hl, by rw [Lib.bytesWorld_size]; omega, fun i x hx => ?_⟩, Lib.bytesWorld_size _ _ _⟩
  have hi : i < l.length := (List.getElem?_eq_some_iff.1 hx).1
  rw [Nat.zero_add, Lib.bytesWorld_cell w 5 _ i (by rw [ba_size]; exact hi)]
  show some (Value.int .u8 ((l.getD i 0).toNat : Int)) = _
  rw [List.getD, hx]; rfl
theorem lnp_ok {l : Bs} {w w' : World} {e : Ending} {c : Cmd} (hls : lineS l = .inl (c, -1)) (hmt : c.mt = [])
    (hL : (∃ c n kv mv, lineS l = .inl (c, n) ∧ e = .returned (.tuple #[.agg (cmA c kv mv), .int .i64 n, .agg #[.int .i64 0, sv [], .int .i64 0]]) ∧ w'.ownsRow w.heap.size 9 1 kv c.keys.length (c.keys.map sv) ∧ w'.ownsRow w.heap.size 79 3 mv c.mt.length (fcs c.mt)) ∨
      ∃ k t p, lineS l = .inr (k, t, p) ∧ e = .returned (.tuple #[.agg (Z31 0 false), .int .i64 (-1), .agg #[.int .i64 k, sv t, .int .i64 p]])) :
    ∃ kv mv, e = .returned (.tuple #[.agg (cmA c kv mv), .int .i64 (-1), .agg #[.int .i64 0, sv [], .int .i64 0]]) ∧ w'.ownsRow w.heap.size 9 1 kv c.keys.length (c.keys.map sv) ∧ ∃ a b, mv = .slice a 0 b := by
  rcases hL with ⟨c', n, kv, mv, h1, h2, h3, h4⟩ | ⟨k, t, p, h1, _⟩
  · rw [hls] at h1
    injection h1 with h1
    injection h1 with h5 h6
    subst h5 h6
    refine ⟨kv, mv, h2, h3, ?_⟩
    rw [hmt] at h4
    obtain ⟨a, b, h5, _⟩ := row_shape h4
    exact ⟨a, b, h5⟩
  · rw [hls] at h1; cases h1
set_option maxRecDepth 100000 in
set_option maxHeartbeats 4000000 in
theorem bytes_8 {w : World} (hE : Er w) (c : Cmd) (nm : Bs) (hof : ofS c.verb = some (nm, ⟨c.verb, [75], [75], true, false⟩)) (hnr : c.nr = false) (hmt : c.mt = []) (kg ko kc dc mc : Nat) (da mo : Option Addr) (hks : c.keys ≠ []) (hkl : c.keys.length ≤ 1000000) (hkcap : c.keys.length ≤ kc) (hkg : kg < w.heap.size) (hkc : ∀ i x, c.keys[i]? = some x → w.cell? ⟨kg, ko + i, none⟩ = some (sv x)) (hl : (Lib.join (nm :: c.keys) [32]).length ≤ 1000000) (hls : lineS (Lib.join (nm :: c.keys) [32]) = .inl (c, -1)) :
    Calls Tryz.prog 33 #[.agg (cmB c (.slice (some ⟨kg, ko, none⟩) c.keys.length kc) (.slice da 0 dc) (.slice mo 0 mc) false)] w fun e w' => ∃ v, e = .returned (.tuple #[v, .int .i64 0]) ∧ By w' v (Lib.join (nm :: c.keys) [32] ++ [13, 10]) ∧ w.grownBy w' none := by
  obtain ⟨l, hll⟩ : ∃ l, Lib.join (nm :: c.keys) [32] = l := ⟨_, rfl⟩
  have hgA := gb_alloc (gb_refl w none) (.cells (cmB c (.slice (some ⟨kg, ko, none⟩) c.keys.length kc) (.slice da 0 dc) (.slice mo 0 mc) false) 41)
  have bA := Box.new w 41 (cmB c (.slice (some ⟨kg, ko, none⟩) c.keys.length kc) (.slice da 0 dc) (.slice mo 0 mc) false)
  have h9 := rows_9 (w.alloc (.cells (cmB c (.slice (some ⟨kg, ko, none⟩) c.keys.length kc) (.slice da 0 dc) (.slice mo 0 mc) false) 41))
  simp only [World.size_alloc] at h9
  have h12 := fun W gb (hG : GM W gb rowL) (hg : w.grownBy W none) => spell_12 hG c nm hof hnr kg ko kc da mo 0 dc 0 mc false hks hkl (Nat.lt_of_lt_of_le hkg hg.size) (fun i x hx => gb_cellN hg (hkc i x hx)) (by omega)
  rw [hll] at h12 hls hl ⊢
  have h10 := fun W gb v (hG : GM W gb rowL) (hg : w.grownBy W none) (hB : By W v l) => line_10 hG (hE.kept hg) v l hB
  have h13 : ∀ (w5 : World) (ka : Option Addr) (kb : Nat) (ma : Option Addr) (mb : Nat) (W : World), w.grownBy w5 none → w5.grownBy W none → w5.ownsRow w.heap.size 9 1 (.slice ka c.keys.length kb) c.keys.length (c.keys.map sv) → Calls Tryz.prog 81 #[.agg #[.int .i64 c.verb, .slice ka c.keys.length kb, .int .u64 c.flags, .int .i64 c.exp, .int .u64 c.tok, .int .u64 c.del, .slice none 0 0, .bool c.nr, .bool false, .slice ma 0 mb, sv c.what], .agg #[.int .i64 c.verb, .slice (some ⟨kg, ko, none⟩) c.keys.length kc, .int .u64 c.flags, .int .i64 c.exp, .int .u64 c.tok, .int .u64 c.del, .slice da 0 dc, .bool c.nr, .bool false, .slice mo 0 mc, sv c.what]] W fun e w' => e = .returned (.bool true) ∧ W.grownBy w' none := fun w5 ka kb ma mb W h1 h2 h3 =>
    same_13 c _ _ _ _ _ _ ((ws_row h3 rfl).kept h2) (.inr ⟨kg, ko, kc, rfl, hkcap, Nat.lt_of_lt_of_le hkg (gb_trans h1 h2).size, fun i x hx => gb_cellN (gb_trans h1 h2) (hkc i x hx)⟩) (by omega) ⟨_, _, rfl⟩ ⟨_, _, rfl⟩ ⟨_, _, _, rfl⟩ ⟨_, _, _, rfl⟩
  have hcat : (ByteArray.mk l.toArray ++ ByteArray.mk #[13, 10]) = ⟨(l ++ [13, 10]).toArray⟩ := ba_app l [13, 10]
  have HNR := Lib.hid hnr
  have HMT := Lib.hid hmt
  have HLS := Lib.hid hls
  clear hll hnr hmt hls hof
  go_enter Tryz.func33, Tryz.ntmps33
  go_wp2_with (first | (go_at_call 62; go_must ((with_reducible refine h9.mono ?_); rintro e w2 ⟨rfl, hG2, hg2⟩; (have b2 := bA.kept hg2 (by simp)); (have p0 : w2.cell? ⟨w.heap.size, 0, none⟩ = some (.int .i64 c.verb) := b2.cell 0); (have p1 : w2.cell? ⟨w.heap.size, 1, none⟩ = some (.slice (some ⟨kg, ko, none⟩) c.keys.length kc) := b2.cell 1); (have p2 : w2.cell? ⟨w.heap.size, 2, none⟩ = some (.int .u64 c.flags) := b2.cell 2); (have p3 : w2.cell? ⟨w.heap.size, 3, none⟩ = some (.int .i64 c.exp) := b2.cell 3); (have p4 : w2.cell? ⟨w.heap.size, 4, none⟩ = some (.int .u64 c.tok) := b2.cell 4); (have p5 : w2.cell? ⟨w.heap.size, 5, none⟩ = some (.int .u64 c.del) := b2.cell 5); (have p6 : w2.cell? ⟨w.heap.size, 6, none⟩ = some (.slice da 0 dc) := b2.cell 6); (have p7 : w2.cell? ⟨w.heap.size, 7, none⟩ = some (.bool c.nr) := b2.cell 7); (have p8 : w2.cell? ⟨w.heap.size, 8, none⟩ = some (.bool false) := b2.cell 8); (have p9 : w2.cell? ⟨w.heap.size, 9, none⟩ = some (.slice mo 0 mc) := b2.cell 9); (have p10 : w2.cell? ⟨w.heap.size, 10, none⟩ = some (sv c.what) := b2.cell 10))) | (go_at_call 80; go_must ((with_reducible refine (h12 _ _ hG2 (gb_trans hgA hg2)).mono ?_); rintro e w3 ⟨rfl, hg3⟩; obtain ⟨W4, cc, hcv, hg4, hB4, hs4⟩ := conv_by w3 l (by omega))) | (go_at_call 63; go_must ((with_reducible refine (h10 _ _ _ ((hG2.kept hg3 (by simp)).kept hg4 (by simp)) (gb_trans (gb_trans (gb_trans hgA hg2) hg3) hg4) hB4).mono ?_); rintro e w5 ⟨hL, hg5⟩; (have hgw5 := gb_trans (gb_trans (gb_trans (gb_trans hgA hg2) hg3) hg4) hg5); (have b5 := ((b2.kept hg3 (by simp)).kept hg4 (by simp)).kept hg5 (by simp)); obtain ⟨kv', mv', rfl, kr, mr⟩ := lnp_ok HLS.out HMT.out hL; obtain ⟨ka, kb, rfl, -, -, -, -⟩ := row_shape kr; obtain ⟨ma, mb, rfl⟩ := mr; (have gX := gb_alloc (gb_alloc (gb_refl w5 none) (.cells #[.int .i64 c.verb, .slice ka c.keys.length kb, .int .u64 c.flags, .int .i64 c.exp, .int .u64 c.tok, .int .u64 c.del, .slice none 0 0, .bool c.nr, .bool false, .slice ma 0 mb, sv c.what] 41)) (.cells #[.int .i64 0, .string ⟨#[]⟩, .int .i64 0] 43)); (have s0 : ((w5.alloc (.cells #[.int .i64 c.verb, .slice ka c.keys.length kb, .int .u64 c.flags, .int .i64 c.exp, .int .u64 c.tok, .int .u64 c.del, .slice none 0 0, .bool c.nr, .bool false, .slice ma 0 mb, sv c.what] 41)).alloc (.cells #[.int .i64 0, .string ⟨#[]⟩, .int .i64 0] 43)).cell? ⟨w.heap.size, 0, none⟩ = some (.int .i64 c.verb) := (b5.kept gX (by simp)).cell 0); (have s1 : ((w5.alloc (.cells #[.int .i64 c.verb, .slice ka c.keys.length kb, .int .u64 c.flags, .int .i64 c.exp, .int .u64 c.tok, .int .u64 c.del, .slice none 0 0, .bool c.nr, .bool false, .slice ma 0 mb, sv c.what] 41)).alloc (.cells #[.int .i64 0, .string ⟨#[]⟩, .int .i64 0] 43)).cell? ⟨w.heap.size, 1, none⟩ = some (.slice (some ⟨kg, ko, none⟩) c.keys.length kc) := (b5.kept gX (by simp)).cell 1); (have s2 : ((w5.alloc (.cells #[.int .i64 c.verb, .slice ka c.keys.length kb, .int .u64 c.flags, .int .i64 c.exp, .int .u64 c.tok, .int .u64 c.del, .slice none 0 0, .bool c.nr, .bool false, .slice ma 0 mb, sv c.what] 41)).alloc (.cells #[.int .i64 0, .string ⟨#[]⟩, .int .i64 0] 43)).cell? ⟨w.heap.size, 2, none⟩ = some (.int .u64 c.flags) := (b5.kept gX (by simp)).cell 2); (have s3 : ((w5.alloc (.cells #[.int .i64 c.verb, .slice ka c.keys.length kb, .int .u64 c.flags, .int .i64 c.exp, .int .u64 c.tok, .int .u64 c.del, .slice none 0 0, .bool c.nr, .bool false, .slice ma 0 mb, sv c.what] 41)).alloc (.cells #[.int .i64 0, .string ⟨#[]⟩, .int .i64 0] 43)).cell? ⟨w.heap.size, 3, none⟩ = some (.int .i64 c.exp) := (b5.kept gX (by simp)).cell 3); (have s4 : ((w5.alloc (.cells #[.int .i64 c.verb, .slice ka c.keys.length kb, .int .u64 c.flags, .int .i64 c.exp, .int .u64 c.tok, .int .u64 c.del, .slice none 0 0, .bool c.nr, .bool false, .slice ma 0 mb, sv c.what] 41)).alloc (.cells #[.int .i64 0, .string ⟨#[]⟩, .int .i64 0] 43)).cell? ⟨w.heap.size, 4, none⟩ = some (.int .u64 c.tok) := (b5.kept gX (by simp)).cell 4); (have s5 : ((w5.alloc (.cells #[.int .i64 c.verb, .slice ka c.keys.length kb, .int .u64 c.flags, .int .i64 c.exp, .int .u64 c.tok, .int .u64 c.del, .slice none 0 0, .bool c.nr, .bool false, .slice ma 0 mb, sv c.what] 41)).alloc (.cells #[.int .i64 0, .string ⟨#[]⟩, .int .i64 0] 43)).cell? ⟨w.heap.size, 5, none⟩ = some (.int .u64 c.del) := (b5.kept gX (by simp)).cell 5); (have s6 : ((w5.alloc (.cells #[.int .i64 c.verb, .slice ka c.keys.length kb, .int .u64 c.flags, .int .i64 c.exp, .int .u64 c.tok, .int .u64 c.del, .slice none 0 0, .bool c.nr, .bool false, .slice ma 0 mb, sv c.what] 41)).alloc (.cells #[.int .i64 0, .string ⟨#[]⟩, .int .i64 0] 43)).cell? ⟨w.heap.size, 6, none⟩ = some (.slice da 0 dc) := (b5.kept gX (by simp)).cell 6); (have s7 : ((w5.alloc (.cells #[.int .i64 c.verb, .slice ka c.keys.length kb, .int .u64 c.flags, .int .i64 c.exp, .int .u64 c.tok, .int .u64 c.del, .slice none 0 0, .bool c.nr, .bool false, .slice ma 0 mb, sv c.what] 41)).alloc (.cells #[.int .i64 0, .string ⟨#[]⟩, .int .i64 0] 43)).cell? ⟨w.heap.size, 7, none⟩ = some (.bool c.nr) := (b5.kept gX (by simp)).cell 7); (have s8 : ((w5.alloc (.cells #[.int .i64 c.verb, .slice ka c.keys.length kb, .int .u64 c.flags, .int .i64 c.exp, .int .u64 c.tok, .int .u64 c.del, .slice none 0 0, .bool c.nr, .bool false, .slice ma 0 mb, sv c.what] 41)).alloc (.cells #[.int .i64 0, .string ⟨#[]⟩, .int .i64 0] 43)).cell? ⟨w.heap.size, 8, none⟩ = some (.bool false) := (b5.kept gX (by simp)).cell 8); (have s9 : ((w5.alloc (.cells #[.int .i64 c.verb, .slice ka c.keys.length kb, .int .u64 c.flags, .int .i64 c.exp, .int .u64 c.tok, .int .u64 c.del, .slice none 0 0, .bool c.nr, .bool false, .slice ma 0 mb, sv c.what] 41)).alloc (.cells #[.int .i64 0, .string ⟨#[]⟩, .int .i64 0] 43)).cell? ⟨w.heap.size, 9, none⟩ = some (.slice mo 0 mc) := (b5.kept gX (by simp)).cell 9); (have s10 : ((w5.alloc (.cells #[.int .i64 c.verb, .slice ka c.keys.length kb, .int .u64 c.flags, .int .i64 c.exp, .int .u64 c.tok, .int .u64 c.del, .slice none 0 0, .bool c.nr, .bool false, .slice ma 0 mb, sv c.what] 41)).alloc (.cells #[.int .i64 0, .string ⟨#[]⟩, .int .i64 0] 43)).cell? ⟨w.heap.size, 10, none⟩ = some (sv c.what) := (b5.kept gX (by simp)).cell 10); clear p0 p1 p2 p3 p4 p5 p6 p7 p8 p9 p10 hcv)) | (go_at_call 81; go_must ((with_reducible refine (h13 w5 ka kb ma mb _ hgw5 gX (row_base kr (gb_trans (gb_trans (gb_trans hgA hg2) hg3) hg4).size)).mono ?_); rintro e w7 ⟨rfl, hg7⟩; (have pd : w7.cell? ⟨w.heap.size, 6, none⟩ = some (.slice da 0 dc) := ((b5.kept gX (by simp)).kept hg7 (by simp)).cell 6); obtain ⟨W8, c8, hcv8, hg8, hB8, hs8⟩ := conv_by w7 (l ++ [13, 10]) (by simp; omega))))
  go_ret2
  have hlen : (l ++ ([13, 10] : Bs)).length = l.length + 2 := by simp
  rw [hlen] at hB8
  exact ⟨_, rfl, hB8, gb_trans hgw5 (gb_trans gX (gb_trans hg7 hg8))⟩
end Go.Proofs.YtobegepebochkaaGreatDoor
