/-
  Encode.
-/
import Derived.Test.YtphhofbdekbggaaTh
import Derived.Test.YtphhofbdekbggaaTj
namespace Go.Proofs.Ytphhofbdekbggaa
open Go.RowKit
set_option linter.unusedVariables false
set_option linter.unusedSimpArgs false

/-- The bytes of a point. -/
def encP (p : Pt) : List Int := encK p.1 4 4 ++ encK p.2.1 2 2 ++ encK p.2.2 2 2
def enc (ps : List Pt) : List Int := ps.flatMap encP
theorem encP_len (p : Pt) : (encP p).length = 8 := by simp [encP, encK_len]
theorem enc_len (ps : List Pt) : (enc ps).length = 8 * ps.length := by
  induction ps with
  | nil => rfl
  | cons p ps ih =>
    show (encP p ++ enc ps).length = _
    rw [List.length_append, encP_len, ih, List.length_cons]
    omega
theorem enc_succ (ps : List Pt) (k : Nat) (h : k < ps.length) : enc (ps.take (k + 1)) = enc (ps.take k) ++ encP (pat ps k) := by
  unfold enc
  rw [← List.take_append_getElem h, List.flatMap_append, pat, List.getD_eq_getElem?_getD, List.getElem?_eq_getElem h]
  simp
theorem own_lt {L : List Sv} {t i : Nat} (h : i < (own L t).length) : 0 ≤ oat (own L t) i ∧ oat (own L t) i < 4294967296 := by
  have := oat_mem h
  unfold own pts at this
  obtain ⟨j, _, e⟩ := List.mem_map.1 this
  have h2 := ptN_lt (nums (sat L t).1) j
  unfold oat
  unfold own pts
  rw [e] at h2
  omega
theorem Circle.lt {L : List Sv} {ps : List Pt} (h : Circle L ps) (k : Nat) (hk : k < ps.length) : 0 ≤ (pat ps k).1 ∧ (pat ps k).1 < 4294967296 := by
  obtain ⟨t, i, _, _, hi, e⟩ := ((h.mem _).1 (pat_mem ps k hk)).1.place
  rw [e]
  exact own_lt hi
/-- What a point tells. -/
theorem Circle.rank {L : List Sv} {ps : List Pt} (h : Circle L ps) (k : Nat) (hk : k < ps.length) : ∃ t r : Nat, (pat ps k).2.1 = (t : Int) ∧ (pat ps k).2.2 = (r : Int) ∧ t < L.length ∧ (r : Int) < 64 * (sat L t).2 := by
  obtain ⟨t, h1, ⟨h2, i, h3, _, h4, _⟩ | ⟨_, i, _, h3, _⟩⟩ := ((h.mem _).1 (pat_mem ps k hk)).1
  · rw [own_len] at h4
    exact ⟨t, i, h1, h3, h2, by omega⟩
  · omega
theorem RZ.lt {w : World} {v : Value} {L : List Sv} {ps : List Pt} (h : RZ w v L ps) (k : Nat) (hk : k < ps.length) : 0 ≤ (pat ps k).1 ∧ (pat ps k).1 < 4294967296 := by
  rcases h with h | ⟨_, _, rfl⟩
  · exact h.ci.lt k hk
  · simp at hk
set_option maxHeartbeats 4000000 in
set_option maxRecDepth 100000 in
theorem encode_17 {w : World} {v : Value} {L : List Sv} {ps : List Pt} (h : RZ w v L ps) :
    Calls Try.prog 17 #[v] w fun e w' => (∃ a c, e = .returned (.slice a (8 * ps.length) c) ∧ Has w' a (8 * ps.length) (enc ps)) ∧ w.grownBy w' none := by
  have hlt32 := h.lt
  obtain ⟨a, g, c, x2, px, pc, gp, rfl, ha, hS, hA, hO, hl, hpl, rfl, hx, hP⟩ := h.parts
  have hf1 : w.grownBy (w.alloc (.cells #[.slice a L.length c, .slice x2 px.length pc] 32)) none := gb_alloc (gb_refl _ _) _
  have c1 : (w.alloc (.cells #[.slice a L.length c, .slice x2 px.length pc] 32)).cell? ⟨w.heap.size, 1, none⟩ = some (.slice x2 px.length pc) := by simp
  have hmk := run_make_room (8 * px.length) (by omega)
  have hown : ∀ W : World, w.heap.size ≤ W.heap.size → (W.alloc (.cells (vals (List.replicate (8 * px.length) 0)) 5)).ownsRow w.heap.size 5 1 (.slice (some ⟨W.heap.size, 0, none⟩) 0 (8 * px.length)) 0 (u8s []) := fun W hW => Own.made w.heap.size W (8 * px.length) hW (by omega)
  have hP1 := hP.grown hf1
  have hps : px.length ≤ 131072 := by omega
  clear h hS hA hO hl hpl hP1 ha
  generalize hn : px.length = n at *
  generalize L.length = m at *
  have h8 : (8 : Int) * (n : Int) = ((8 * n : Nat) : Int) := by simp
  have hN2 : 8 * n ≤ 1048576 := by omega
  generalize hNe : 8 * n = N at h8 hmk hown hN2 ⊢
  have HN : Hid (8 * n = N) := hNe
  clear hNe
  have h8w : IntKind.i64.wrap (N : Int) = (N : Int) := by rw [IntKind.wrap_i64]; omega
  go_enter Try.func17, Try.ntmps17
  go_wp2_with fail
  generalize hW : w.alloc (.cells #[.slice a m c, .slice x2 n pc] 32) = W at *
  have hWs : W.heap.size = w.heap.size + 1 := by rw [← hW]; simp
  have hf2 := gb_alloc hf1 (.cells (vals (List.replicate N 0)) 5)
  have ho1 := hown W (by omega)
  rw [hWs] at ho1
  have hWs2 : w.heap.size ≤ (W.alloc (.cells (vals (List.replicate N 0)) 5)).heap.size := by simp; omega
  generalize W.alloc (.cells (vals (List.replicate N 0)) 5) = W2 at *
  clear hW hWs hf1 hmk hown c1
  go_loopw [3, 14] (fun x y wr => ∃ (k : Nat), k ≤ n ∧ y = .int .i64 k ∧ wr.ownsRow w.heap.size 5 1 x (8 * k) (u8s (enc (px.take k))) ∧ w.heap.size ≤ wr.heap.size ∧ w.grownBy wr none) (fun _ y _ => n - (intOf y).toNat)
  case atStart => exact ⟨0, by omega, rfl, ho1, hWs2, hf2⟩
  case round =>
    obtain ⟨k, hk, rfl, ho, hsz, hg⟩ := hrel
    obtain ⟨xa, xc, rfl, _, _, _, _⟩ := row_shape ho
    by_cases hlt : k < n
    · obtain rfl := hx (by omega)
      obtain ⟨c0, c1, c2⟩ := (hP.grown hg) k (by omega)
      have HE : Hid (enc (px.take (k + 1)) = ((enc (px.take k) ++ encK (pat px k).1 4 4) ++ encK (pat px k).2.1 2 2) ++ encK (pat px k).2.2 2 2) := by
        show _ = _
        rw [enc_succ px k (by omega), encP]
        simp only [List.append_assoc]
      have hxw : IntKind.i64.wrap (pat px k).1 = (pat px k).1 := by
        have := hlt32 k (by omega)
        rw [IntKind.wrap_i64]
        omega
      have hb49 := Box.new wr 49 #[.int .u32 (pat px k).1, .int .i64 (pat px k).2.1, .int .i64 (pat px k).2.2]
      have ho2 := World.ownsRow.alloc ho (.cells #[.int .u32 (pat px k).1, .int .i64 (pat px k).2.1, .int .i64 (pat px k).2.2] 49)
      have hsz2 : w.heap.size ≤ (wr.alloc (.cells #[.int .u32 (pat px k).1, .int .i64 (pat px k).2.1, .int .i64 (pat px k).2.2] 49)).heap.size := by simp; omega
      have hlo := fun b hb => row_own ho (b := b) hb
      have hg2 := gb_alloc hg (.cells #[.int .u32 (pat px k).1, .int .i64 (pat px k).2.1, .int .i64 (pat px k).2.2] 49)
      have h381 := put_38 (pat px k).1 4 (by omega) ho2 (by omega) hsz2
      simp only [Int.cast_ofNat_Int] at h381
      generalize (pat px k).1 = x at *
      generalize (pat px k).2.1 = y at *
      generalize (pat px k).2.2 = z at *
      generalize hwb : wr.heap.size = wb at *
      generalize hW1 : wr.alloc (.cells #[.int .u32 x, .int .i64 y, .int .i64 z] 49) = W1 at *
      have d0 := hb49.cell 0
      have d1 := hb49.cell 1
      have d2 := hb49.cell 2
      simp only [List.getElem?_toArray, List.getElem?_cons_succ, List.getElem?_cons_zero] at d0 d1 d2
      have h382 : ∀ (W : World) (v : Value), W.ownsRow w.heap.size 5 1 v (8 * k + 4) (u8s (enc (px.take k) ++ encK x 4 4)) → w.heap.size ≤ W.heap.size → Calls Try.prog 38 #[v, .int .i64 y, .int .i64 2] W fun e w' => (∃ v', e = .returned v' ∧ w'.ownsRow w.heap.size 5 1 v' (8 * k + 4 + 2) (u8s (enc (px.take k) ++ encK x 4 4 ++ encK y 2 2)) ∧ (∀ b, v'.ownBlock = some b → v.ownBlock = some b ∨ W.heap.size ≤ b)) ∧ W.grownBy w' v.ownBlock := fun W v ho hs => put_38 y 2 (by omega) ho (by omega) hs
      have h383 : ∀ (W : World) (v : Value), W.ownsRow w.heap.size 5 1 v (8 * k + 4 + 2) (u8s (enc (px.take k) ++ encK x 4 4 ++ encK y 2 2)) → w.heap.size ≤ W.heap.size → Calls Try.prog 38 #[v, .int .i64 z, .int .i64 2] W fun e w' => (∃ v', e = .returned v' ∧ w'.ownsRow w.heap.size 5 1 v' (8 * k + 4 + 2 + 2) (u8s (enc (px.take k) ++ encK x 4 4 ++ encK y 2 2 ++ encK z 2 2)) ∧ (∀ b, v'.ownBlock = some b → v.ownBlock = some b ∨ W.heap.size ≤ b)) ∧ W.grownBy w' v.ownBlock := fun W v ho hs => put_38 z 2 (by omega) ho (by omega) hs
      have hwb1 : wb < W1.heap.size := hb49.lt
      have hne1 : some wb ≠ (Value.slice xa (8 * k) xc).ownBlock := fun e => by have := (hlo wb e.symm).2; omega
      have HLO : Hid (∀ b, (Value.slice xa (8 * k) xc).ownBlock = some b → w.heap.size ≤ b) := fun b hb => (hlo b hb).1
      clear hlo hP ho ho1 ho2 hf2 hg HN hlt32
      go_wp2_with (first
        | (go_at_call 38; refine h381.mono ?_; rintro r w3 ⟨⟨v3, rfl, ho3, hb3⟩, hg3⟩; (obtain ⟨a3, q3, rfl, _, _, _, _⟩ := row_shape ho3); (have hsz3 := Nat.le_trans hsz2 hg3.size); (have hb49b := hb49.kept hg3 hne1); (have d0 := hb49b.cell 0); (have d1 := hb49b.cell 1); (have d2 := hb49b.cell 2); simp only [List.getElem?_toArray, List.getElem?_cons_succ, List.getElem?_cons_zero] at d0 d1 d2; clear h381)
        | (go_at_call 38; refine (h382 _ _ ho3 hsz3).mono ?_; rintro r w4 ⟨⟨v4, rfl, ho4, hb4⟩, hg4⟩; (obtain ⟨a4, q4, rfl, _, _, _, _⟩ := row_shape ho4); (have hsz4 := Nat.le_trans hsz3 hg4.size); (have hb49c := hb49b.kept hg4 (fun e => (hb3 wb e.symm).elim (fun e2 => hne1 e2.symm) (fun e2 => absurd hwb1 (by omega)))); (have d0 := hb49c.cell 0); (have d1 := hb49c.cell 1); (have d2 := hb49c.cell 2); simp only [List.getElem?_toArray, List.getElem?_cons_succ, List.getElem?_cons_zero] at d0 d1 d2; clear h382)
        | (go_at_call 38; refine (h383 _ _ ho4 hsz4).mono ?_; rintro r w5 ⟨⟨v5, rfl, ho5, hb5⟩, hg5⟩; clear h383)
        | fail)
      go_roundw
      case rel =>
        refine ⟨k + 1, by omega, by go_num, by rw [HE.out]; exact ho5, Nat.le_trans hsz4 hg5.size, ?_⟩
        have k3 : ∀ b, (Value.slice a3 (8 * k + 4) q3).ownBlock = some b → w.heap.size ≤ b := fun b hb => (hb3 b hb).elim (fun e => HLO.out b e) (fun e => by omega)
        have k4 : ∀ b, (Value.slice a4 (8 * k + 4 + 2) q4).ownBlock = some b → w.heap.size ≤ b := fun b hb => (hb4 b hb).elim (fun e => k3 b e) (fun e => by omega)
        exact gb_step (gb_step (gb_step hg2 hg3 (fun i hi => .inr (HLO.out i hi))) hg4 (fun i hi => .inr (k3 i hi))) hg5 (fun i hi => .inr (k4 i hi))
      case measure => simp [intOf]; omega
    · obtain rfl : k = n := by omega
      have hfin : px.take k = px := by rw [← hn, List.take_length]
      rw [hfin] at ho
      have HNO := HN.out
      clear hP ho1 hf2 HN hlt32
      go_wp2_with fail
      go_ret
      have hle : (enc px).length = 8 * k := by rw [enc_len, hn]
      have hH : Has wr xa (8 * k) (enc px) := by
        have := Own.has (B := w.heap.size) (w := wr) (ao := xa) (cap := xc) (us := enc px) (by unfold Own; rw [hle]; exact ho)
        rwa [hle] at this
      rw [HNO] at hH
      exact ⟨⟨xa, xc, by rw [HNO]; rfl, hH⟩, hg⟩
end Go.Proofs.Ytphhofbdekbggaa
