import Derived.Test.YtobegepebochkaaGreatDoorSPbn
import Derived.Test.YtobegepebochkaaGreatDoorSD
set_option linter.unusedVariables false
set_option linter.unusedSimpArgs false
namespace Go.Proofs.YtobegepebochkaaGreatDoor
open Go.RowKit Go.Maps
theorem toNat_ne {b : UInt8} {n : Nat} (hn : n < 256) (h : b ≠ UInt8.ofNat n) : ¬ ((b.toNat : Int) = (n : Int)) := by
  intro e
  apply h
  have : b.toNat = n := by omega
  apply UInt8.toNat_inj.1
  rw [this]
  simp [UInt8.toNat_ofNat, Nat.mod_eq_of_lt hn]
set_option maxRecDepth 100000 in
set_option maxHeartbeats 4000000 in
theorem behind_no {w : World} {fb : Nat} {F : Fd} {kv : Value} (h : IsF w fb F kv) (hok : F.Ok) {v : Value} {l : Bs} (hv : Ck w (XF fb kv) v l) (hl : 0 < l.length) (hl2 : l.length ≤ 1099511627776) (ht : F.taken ≤ 2199023255552) (hst : F.st = 2) (b : UInt8) (t : Bs) (hbt : l = b :: t) (hb : b ≠ 13) :
    Calls Tryz.prog 172 #[.pointer (some ⟨fb, 0, none⟩), v] w fun e w' => StP F l w fb kv e w' := by
  obtain ⟨g, o, c, rfl, hc1, -, -, hc⟩ := hv.by hl
  obtain ⟨hd, lf, ck, cd, cm, hx, -, -⟩ := h
  have cb : w.cell? ⟨g, o, none⟩ = some (.int .u8 b.toNat) := hc 0 b (by rw [hbt]; rfl)
  have hne := toNat_ne (n := 13) (by omega) (b := b) (by simpa using hb)
  have h187 := spoil_187 hx.box
  have hend : ∀ w4, Box w4 136 fb (fdA fb F.spoil (.slice none 0 0) hd 0 (.slice none 0 0) (.slice none 0 0) (.slice none 0 0)) → w.grownBy w4 (some fb) → StP F l w fb kv (.returned (.tuple #[.int .i64 0, .bool false])) w4 := fun w4 b4 g4 =>
    spoil_st hok hl (by omega) (by rw [hbt]; exact run_spoil (.inl hst) b t (fun _ => hb) (fun e => by omega)) b4 g4
  obtain ⟨n, hn⟩ : ∃ n, l.length = n + 1 := ⟨t.length, by rw [hbt]; rfl⟩
  rw [hn]
  have d1 : (0 : Int) < ((n + 1 : Nat) : Int) := by omega
  clear hx hok hv hl hl2 hc hbt hb hn
  go_enter Tryz.func172, Tryz.ntmps172
  go_wp2_with (go_at_call 187; go_must ((with_reducible refine h187.mono ?_); rintro e w4 ⟨rfl, b4, g4⟩))
  go_ret2
  exact hend _ b4 g4
set_option maxRecDepth 100000 in
set_option maxHeartbeats 4000000 in
theorem last_no {w : World} {fb : Nat} {F : Fd} {kv : Value} (h : IsF w fb F kv) (hok : F.Ok) {v : Value} {l : Bs} (hv : Ck w (XF fb kv) v l) (hl : 0 < l.length) (hl2 : l.length ≤ 1099511627776) (ht : F.taken ≤ 2199023255552) (hst : F.st = 3) (b : UInt8) (t : Bs) (hbt : l = b :: t) (hb : b ≠ 10) :
    Calls Tryz.prog 188 #[.pointer (some ⟨fb, 0, none⟩), v] w fun e w' => StP F l w fb kv e w' := by
  obtain ⟨g, o, c, rfl, hc1, -, -, hc⟩ := hv.by hl
  obtain ⟨hd, lf, ck, cd, cm, hx, -, -⟩ := h
  have cb : w.cell? ⟨g, o, none⟩ = some (.int .u8 b.toNat) := hc 0 b (by rw [hbt]; rfl)
  have hne := toNat_ne (n := 10) (by omega) (b := b) (by simpa using hb)
  have h187 := spoil_187 hx.box
  have hend : ∀ w4, Box w4 136 fb (fdA fb F.spoil (.slice none 0 0) hd 0 (.slice none 0 0) (.slice none 0 0) (.slice none 0 0)) → w.grownBy w4 (some fb) → StP F l w fb kv (.returned (.tuple #[.int .i64 0, .bool false])) w4 := fun w4 b4 g4 =>
    spoil_st hok hl (by omega) (by rw [hbt]; exact run_spoil (.inr hst) b t (fun e => by omega) (fun _ => hb)) b4 g4
  obtain ⟨n, hn⟩ : ∃ n, l.length = n + 1 := ⟨t.length, by rw [hbt]; rfl⟩
  rw [hn]
  have d1 : (0 : Int) < ((n + 1 : Nat) : Int) := by omega
  clear hx hok hv hl hl2 hc hbt hb hn
  go_enter Tryz.func188, Tryz.ntmps188
  go_wp2_with (go_at_call 187; go_must ((with_reducible refine h187.mono ?_); rintro e w4 ⟨rfl, b4, g4⟩))
  go_ret2
  exact hend _ b4 g4
set_option maxRecDepth 100000 in
set_option maxHeartbeats 4000000 in
theorem behind_yes {w : World} {fb : Nat} {F : Fd} {kv : Value} (h : IsF w fb F kv) (hok : F.Ok) {v : Value} {l : Bs} (hv : Ck w (XF fb kv) v l) (hl : 0 < l.length) (hl2 : l.length ≤ 1099511627776) (ht : F.taken ≤ 2199023255552) (hst : F.st = 2) (t : Bs) (hbt : l = 13 :: t) :
    Calls Tryz.prog 172 #[.pointer (some ⟨fb, 0, none⟩), v] w fun e w' => StP F l w fb kv e w' := by
  have hmf : ∀ (fn : Fn) (first cap : Array Value) (w : World), (Instr.makeFunc fn first cap).run Tryz.prog w = .ok (.func fn first cap) w := fun _ _ _ _ => rfl
  obtain ⟨g, o, c, rfl, hc1, -, -, hc⟩ := hv.by hl
  obtain ⟨hd, lf, ck, cd, cm, hx, hh, -⟩ := h
  have ehd := hh (.inr (.inl hst))
  subst ehd
  have cb : w.cell? ⟨g, o, none⟩ = some (.int .u8 13) := hc 0 13 (by rw [hbt]; rfl)
  have hkl : F.kept.length ≤ 4398046511104 := by have := hok.taken; omega
  have ht1 : l.take 1 = [13] := by rw [hbt]; rfl
  have h135 := keep_135 hx.box hx.kept (hv.take 1 hl) (by rw [ht1]; simp) (by rw [ht1]; simp) hkl
  rw [ht1] at h135
  have hend : ∀ w4 g' cap w5, Box w4 136 fb (fdA fb (F.put [13]) (.slice (some ⟨g', 0, none⟩) (F.kept.length + 1) cap) F.head lf ck cd cm) → w4.ownsRow 0 5 1 (.slice (some ⟨g', 0, none⟩) (F.kept.length + 1) cap) (F.kept.length + 1) (F.kept.map b8 ++ [13].map b8) → Kp (XF fb kv) w w4 → (kv.ownBlock = some g' ∨ w.heap.size ≤ g') → w5 = w4.setCell ⟨fb, 23, none⟩ (stV fb 3) → StP F l w fb kv (.returned (.tuple #[.int .i64 1, .bool false])) w5 := by
    rintro w4 g' cap _ b4 r4 k4 a4 rfl
    have g5 : w4.grownBy (w4.setCell ⟨fb, 23, none⟩ (stV fb 3)) (some fb) := gb_setCell (gb_refl _ _) _
    have hx4 : IsFx w4 fb (F.put [13]) _ F.head lf ck cd cm := isfx_kp hx k4 b4 rfl (by
      show w4.ownsRow 0 5 1 _ (F.kept ++ [13]).length ((F.kept ++ [13]).map b8)
      rw [List.length_append, List.map_append]; exact r4) (fun k hk => by simp [Value.ownBlock] at hk; subst hk; exact a4)
    have hx5 := isfx_kp (G := { F.put [13] with st := 3 }) hx4 (gb_kp g5) (b4.set 23 _) rfl (row_kp hx4.kept (gb_kp g5 (kv := .slice none 0 0)) (fun k hk he => by
      rcases he with rfl | he
      · exact row_box hx4.kept hx4.box (by omega) k hk rfl
      · simp [Value.ownBlock] at he)) (fun k hk => .inl hk)
    refine ⟨1, false, { F.put [13] with st := 3 }, _, rfl, hl, ⟨_, _, _, _, _, hx5, fun _ => rfl, fun e => by simp at e⟩, ?_, fun k hk => by simp [Value.ownBlock] at hk; subst hk; exact a4, fun e => by omega, rfl, rfl, fun _ => ?_, (fun e => by cases e), Kn.same hx.box hx5.box, ?_⟩
    · exact k4.trans (gb_kp (kv := .slice none 0 0) g5) (fun i hi => hi) (fun i hi => by
        rcases hi with rfl | hi
        · exact .inl (.inl rfl)
        · simp [Value.ownBlock] at hi)
    · have h3 := ok_run [13] hok
      rw [run_behind hst] at h3
      exact h3
    · refine run_cut_no ?_
      rw [ht1, run_behind hst]
      rfl
  obtain ⟨n, hn⟩ : ∃ n, l.length = n + 1 := ⟨t.length, by rw [hbt]; rfl⟩
  rw [hn]
  have d1 : (0 : Int) < ((n + 1 : Nat) : Int) := by omega
  have d2 : (1 : Int) ≤ (c : Int) := by omega
  clear hx hh hok hv hl hl2 hc hbt ht1 hkl hn
  go_enter Tryz.func172, Tryz.ntmps172
  go_wp2_with (go_at_call 135; go_must ((with_reducible refine h135.mono ?_); rintro e w4 ⟨rfl, g', cap, b4, r4, k4, a4⟩; (obtain ⟨u23, c23⟩ : ∃ u, w4.cell? ⟨fb, 23, none⟩ = some u := ⟨_, b4.cell 23⟩); (have z23 := b4.fz 23)))
  go_ret2
  exact hend _ _ _ _ b4 r4 k4 a4 rfl
end Go.Proofs.YtobegepebochkaaGreatDoor
namespace Go.Proofs.YtobegepebochkaaGreatDoor
open Go.RowKit Go.Maps
def RdF (F : Fd) (w : World) (fb : Nat) (kv : Value) (e : Ending) (w' : World) : Prop :=
  ∃ kv', e = .returned (.bool F.rd.2) ∧ IsF w' fb F.rd.1 kv' ∧ Kp (XF fb kv) w w' ∧ (∀ k, kv'.ownBlock = some k → kv.ownBlock = some k) ∧ Kn w w' fb
theorem rd_tk (F : Fd) (n : Nat) : (F.tk n).rd = (F.rd.1.tk n, F.rd.2) := by
  unfold Fd.rd
  show (match lineS (trim F.kept.dropLast) with | .inl (c, m) => _ | .inr (k, t, p) => _) = _
  cases lineS (trim F.kept.dropLast) with
  | inl x =>
    obtain ⟨c, m⟩ := x
    show (if m < 0 then _ else if (F.limit : Int) < m then _ else _) = _
    by_cases h1 : m < 0
    · simp [h1]; rfl
    · by_cases h2 : (F.limit : Int) < m
      · simp [h1, h2]; rfl
      · simp [h1, h2]; rfl
  | inr x =>
    obtain ⟨k, t, p⟩ := x
    show (if p < 0 ∨ (F.limit : Int) < p then _ else _) = _
    by_cases h1 : p < 0 ∨ (F.limit : Int) < p
    · simp [h1]; rfl
    · simp [h1]; rfl
theorem rd_data (F : Fd) : F.rd.1.s.data = [] := by
  unfold Fd.rd
  cases lineS (trim F.kept.dropLast) with
  | inl x =>
    obtain ⟨c, n⟩ := x
    dsimp only
    split
    · rfl
    · split <;> rfl
  | inr x =>
    obtain ⟨k, t, p⟩ := x
    dsimp only
    split <;> rfl
theorem rd_same (F : Fd) : F.rd.1.taken = F.taken ∧ F.rd.1.limit = F.limit := ⟨(rd_facts F).1, (rd_facts F).2.1⟩
theorem Er.kp {X : Nat → Prop} {w w' : World} (h : Er w) (hk : Kp X w w') (h2 : ¬ X 2) (h3 : ¬ X 3) : Er w' := by
  obtain ⟨⟨a, b, e1⟩, c, d, e2⟩ := h
  have l2 := lt_of_cell e1
  have l3 := lt_of_cell e2
  have k2 := hk.block 2 l2 h2
  have k3 := hk.block 3 l3 h3
  exact ⟨⟨a, b, by simpa [World.cell?, k2] using e1⟩, c, d, by simpa [World.cell?, k3] using e2⟩
theorem kept_by {w : World} {fb : Nat} {F : Fd} {kv ck cd cm : Value} {hd lf : Int} (hx : IsFx w fb F kv hd lf ck cd cm) {kg n cp : Nat} (e : kv = .slice (some ⟨kg, 0, none⟩) n cp) : kg < w.heap.size ∧ ∀ i x, F.kept[i]? = some x → w.cell? ⟨kg, 0 + i, none⟩ = some (b8 x) := by
  subst e
  have hn : n = F.kept.length := by
    obtain ⟨ao, c, e, _⟩ := row_shape hx.kept
    injection e
  subst hn
  refine ⟨row_lt hx.kept kg rfl, fun i x hi => ?_⟩
  rw [Nat.zero_add]
  refine row_cell hx.kept _ _ ?_
  rw [List.getElem?_map, hi]; rfl
theorem isf_keep {w w4 : World} {fb g' cap : Nat} {F : Fd} {kv ck cd cm : Value} {hd lf : Int} {p : Bs} (hx : IsFx w fb F kv hd lf ck cd cm) (b4 : Box w4 136 fb (fdA fb (F.put p) (.slice (some ⟨g', 0, none⟩) (F.kept.length + p.length) cap) hd lf ck cd cm)) (r4 : w4.ownsRow 0 5 1 (.slice (some ⟨g', 0, none⟩) (F.kept.length + p.length) cap) (F.kept.length + p.length) (F.kept.map b8 ++ p.map b8)) (k4 : Kp (XF fb kv) w w4) (a4 : kv.ownBlock = some g' ∨ w.heap.size ≤ g') : IsFx w4 fb (F.put p) (.slice (some ⟨g', 0, none⟩) (F.kept.length + p.length) cap) hd lf ck cd cm :=
  isfx_kp hx k4 b4 rfl (by
      show w4.ownsRow 0 5 1 _ (F.kept ++ p).length ((F.kept ++ p).map b8)
      rw [List.length_append, List.map_append]; exact r4) (fun k hk => by simp [Value.ownBlock] at hk; subst hk; exact a4)
set_option maxRecDepth 100000 in
set_option maxHeartbeats 4000000 in
theorem line_end {w : World} {fb : Nat} {F : Fd} {kv : Value} (h : IsF w fb F kv) (hok : F.Ok) {v : Value} {l : Bs} (hv : Ck w (XF fb kv) v l) (hl : 0 < l.length) (hl2 : l.length ≤ 1099511627776) (ht : F.taken ≤ 2199023255552) (hst : F.st = 0) (hE : Er w) (hX : ¬ XF fb kv 2 ∧ ¬ XF fb kv 3) (p t : Bs) (hpt : l.take (2050 - F.kept.length) = p ++ 10 :: t) (hp : (10 : UInt8) ∉ p)
    (h136 : ∀ w4 kv4, IsF w4 fb (F.put (p ++ [10])) kv4 → Er w4 → (∃ g n c, kv4 = .slice (some ⟨g, 0, none⟩) n c) → Calls Tryz.prog 136 #[.pointer (some ⟨fb, 0, none⟩)] w4 fun e w' => RdF (F.put (p ++ [10])) w4 fb kv4 e w') :
    Calls Tryz.prog 89 #[.pointer (some ⟨fb, 0, none⟩), v] w fun e w' => StP F l w fb kv e w' := by
  obtain ⟨g, o, c, rfl, hc1, -, -, hc⟩ := hv.by hl
  obtain ⟨hd, lf, ck, cd, cm, hx, hh, -⟩ := h
  obtain ⟨ql, -⟩ := hok.line hst
  have hsh := hok.short hst
  obtain ⟨ao, cp, ekv, -, -, -, -⟩ := row_shape hx.kept
  have c4 : w.cell? ⟨fb, 4, none⟩ = some (.slice ao F.kept.length cp) := by rw [← ekv]; exact hx.box.cell 4
  obtain ⟨u, hu⟩ : ∃ u, min l.length (2050 - F.kept.length) = u := ⟨_, rfl⟩
  have hu1 : u ≤ l.length := by omega
  have hch : l.take u = p ++ 10 :: t := by rw [← hpt, ← hu, Nat.min_comm, List.take_eq_take_min (i := 2050 - F.kept.length)]
  have hul : (p ++ 10 :: t).length = u := by rw [← hch, List.length_take]; omega
  have hpu : p.length + 1 ≤ u := by rw [← hul]; simp
  have ht2 : l.take (p.length + 1) = p ++ [10] := by
    have e : l.take (p.length + 1) = (l.take u).take (p.length + 1) := by rw [List.take_take, Nat.min_eq_left hpu]
    rw [e, hch, List.take_append, List.take_of_length_le (by omega)]
    simp
  have hix : Lib.indexByte (l.take u) 10 = (p.length : Int) := by
    rw [hch]
    rcases indexByte_spec 10 (p ++ 10 :: t) with ⟨_, h4⟩ | ⟨p', t', h3, h4, h5⟩
    · exact absurd (by simp) h4
    · rw [h5]
      have : p = p' := by
        rcases List.append_eq_append_iff.1 h3 with ⟨a, h6, h7⟩ | ⟨a, h6, h7⟩
        · cases a with
          | nil => simpa using h6.symm
          | cons x a => simp at h7; rw [h6] at h4; exact absurd (by simp [← h7.1]) h4
        · cases a with
          | nil => simpa using h6
          | cons x a => simp at h7; rw [h6] at hp; exact absurd (by simp [← h7.1]) hp
      rw [this]
  have htk := hv.take u hu1
  obtain ⟨g2, o2, c2, e2, -, -, -, hcu⟩ := htk.by (by rw [List.length_take]; omega)
  have hul2 : (l.take u).length = u := by rw [hch]; exact hul
  rw [hul2] at e2
  have h118 := ix_118 w g o c (l.take u) (fun i x hi => by
    rw [List.getElem?_take] at hi
    split at hi
    · exact hc i x hi
    · cases hi)
  rw [hix, hul2] at h118
  clear e2 hcu htk
  have hkl : F.kept.length ≤ 4398046511104 := by omega
  have h135 := keep_135 hx.box hx.kept (hv.take (p.length + 1) (by omega)) (by rw [ht2]; simp) (by rw [ht2]; simp; omega) hkl
  rw [ht2] at h135
  have e0 : (p ++ [(10 : UInt8)]).length = p.length + 1 := by simp
  have hend : ∀ w4 g' cap w5 e, Box w4 136 fb (fdA fb (F.put (p ++ [10])) (.slice (some ⟨g', 0, none⟩) (F.kept.length + (p ++ [10]).length) cap) hd lf ck cd cm) → w4.ownsRow 0 5 1 (.slice (some ⟨g', 0, none⟩) (F.kept.length + (p ++ [10]).length) cap) (F.kept.length + (p ++ [10]).length) (F.kept.map b8 ++ (p ++ [10]).map b8) → Kp (XF fb kv) w w4 → (kv.ownBlock = some g' ∨ w.heap.size ≤ g') → RdF (F.put (p ++ [10])) w4 fb (.slice (some ⟨g', 0, none⟩) (F.kept.length + (p ++ [10]).length) cap) e w5 → e = .returned (.bool (F.put (p ++ [10])).rd.2) ∧ StP F l w fb kv (.returned (.tuple #[.int .i64 ((p.length : Int) + 1), .bool (F.put (p ++ [10])).rd.2])) w5 := by
    rintro w4 g' cap w5 e b4 r4 k4 a4 ⟨kv5, rfl, i5, k5, n5, n6⟩
    refine ⟨rfl, p.length + 1, (F.put (p ++ [10])).rd.2, (F.put (p ++ [10])).rd.1, kv5, by simp, by omega, i5, ?_, fun k hk => ?_, fun e => by omega, (rd_same _).1, (rd_same _).2, fun hw => ?_, fun _ => nd_cell i5 (rd_data _), (Kn.same hx.box b4).trans n6 k4.size, ?_⟩
    · refine k4.trans k5 (fun i hi => hi) (fun i hi => ?_)
      rcases hi with rfl | hi
      · exact .inl (.inl rfl)
      · simp [Value.ownBlock] at hi
        subst hi
        rcases a4 with a4 | a4
        · exact .inl (.inr a4)
        · exact .inr a4
    · have := n5 k hk
      simp [Value.ownBlock] at this
      subst this
      exact a4
    · have h3 := ok_rd (F := (F.tk (p.length + 1)).put (p ++ [10])) hst (by simp [Fd.put, Fd.tk]; omega) hok.left hok.limit (by have := hok.taken; simp [Fd.put, Fd.tk]; omega)
      have e3 : (F.tk (p.length + 1)).put (p ++ [10]) = (F.put (p ++ [10])).tk (p.length + 1) := rfl
      rw [e3, rd_tk] at h3
      exact h3 hw
    · refine run_cut ?_
      rw [ht2, run_line_end hst hsh p hp (by omega)]
      have e3 : (F.tk (p.length + 1)).put (p ++ [10]) = (F.put (p ++ [10])).tk (p.length + 1) := rfl
      rw [e3, rd_tk]
      rfl
  have hmid : ∀ w4 g' cap, Box w4 136 fb (fdA fb (F.put (p ++ [10])) (.slice (some ⟨g', 0, none⟩) (F.kept.length + (p ++ [10]).length) cap) hd lf ck cd cm) → w4.ownsRow 0 5 1 (.slice (some ⟨g', 0, none⟩) (F.kept.length + (p ++ [10]).length) cap) (F.kept.length + (p ++ [10]).length) (F.kept.map b8 ++ (p ++ [10]).map b8) → Kp (XF fb kv) w w4 → (kv.ownBlock = some g' ∨ w.heap.size ≤ g') → Calls Tryz.prog 136 #[.pointer (some ⟨fb, 0, none⟩)] w4 fun e w' => RdF (F.put (p ++ [10])) w4 fb (.slice (some ⟨g', 0, none⟩) (F.kept.length + (p ++ [10]).length) cap) e w' := by
    intro w4 g' cap b4 r4 k4 a4
    have h0 : (F.put (p ++ [10])).st = 0 := hst
    exact h136 w4 _ ⟨hd, lf, ck, cd, cm, isf_keep hx b4 r4 k4 a4, fun e => by omega, fun e => by omega⟩ (hE.kp k4 hX.1 hX.2) ⟨_, _, _, rfl⟩
  rw [e0] at h135 hend hmid
  have d1 : min (l.length : Int) (2050 - (F.kept.length : Int)) = (u : Int) := by omega
  have d2 : (u : Int) ≤ (c : Int) := by omega
  have d3 : (0 : Int) ≤ (p.length : Int) := by omega
  have d4 : (p.length : Int) + 1 ≤ (c : Int) := by omega
  have d5 : (p.length : Int) ≤ 2050 := by omega
  have d6 : ((p.length : Int) + 1).toNat = p.length + 1 := by omega
  clear hx hh hok hv hl hl2 hc hch hul hpt hp ht2 hix hul2 h136 hkl hE hX hsh e0 hu ekv
  go_enter Tryz.func89, Tryz.ntmps89
  go_wp2_with (first | (go_at_call 118; go_must ((with_reducible refine h118.mono ?_); rintro e w4 ⟨rfl, rfl⟩)) | (go_at_call 135; go_must ((with_reducible refine h135.mono ?_); rintro e w4 ⟨rfl, g', cap, b4, r4, k4, a4⟩)) | (go_at_call 136; go_must ((with_reducible refine (hmid _ _ _ b4 r4 k4 a4).mono ?_); intro e w5 hrd; (obtain ⟨he5, hst5⟩ := hend _ _ _ _ _ b4 r4 k4 a4 hrd); (rw [he5]))))
  go_ret2
  exact hst5
end Go.Proofs.YtobegepebochkaaGreatDoor
