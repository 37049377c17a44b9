import Derived.Test.YtobegepebochkaaGreatDoorRPan
import Derived.Test.YtobegepebochkaaGreatDoorRD
import Derived.Recover
import Derived.Test.YtobegepebochkaaGreatDoorRPam
set_option linter.unusedVariables false
set_option linter.unusedSimpArgs false
set_option maxRecDepth 100000
set_option maxHeartbeats 16000000
namespace Go.Proofs.YtobegepebochkaaGreatDoor
open Go.RowKit Go.Maps
def RdF (F : Fd) (w : World) (fb : Nat) (kv : Value) (e : Ending) (w' : World) : Prop :=
  ∃ kv', e = .returned (.bool F.rd.2) /\ IsF w' fb F.rd.1 kv' /\ Kp (XF fb kv) w w' /\ (∀ k, kv'.ownBlock = some k -> kv.ownBlock = some k) /\ Kn w w' fb
theorem rd_tk (F : Fd) (n : Nat) : (F.tk n).rd = (F.rd.1.tk n, F.rd.2) := by
  unfold Fd.rd
  show (match lineS (trim F.kept.dropLast) with | .inl (c, m) => _ | .inr (k, t, p) => _) = _
  cases lineS (trim F.kept.dropLast) with
  | inl x =>
    obtain ⟨c, m⟩ := x
    show (if m < 0 then _ else if (F.limit : Int) < m then _ else _) = _
    by_cases h1 : m < 0
    . simp [h1]; rfl
    . by_cases h2 : (F.limit : Int) < m
      . simp [h1, h2]; rfl
      . simp [h1, h2]; rfl
  | inr x =>
    obtain ⟨k, t, p⟩ := x
    show (if p < 0 \/ (F.limit : Int) < p then _ else _) = _
    by_cases h1 : p < 0 \/ (F.limit : Int) < p
    . simp [h1]; rfl
    . simp [h1]; rfl
theorem rd_data (F : Fd) : F.rd.1.s.data = [] := by
  unfold Fd.rd
  cases lineS (trim F.kept.dropLast) with
  | inl x =>
    obtain ⟨c, n⟩ := x
    dsimp only
    split
    . rfl
    . split <;> rfl
  | inr x =>
    obtain ⟨k, t, p⟩ := x
    dsimp only
    split <;> rfl
theorem rd_same (F : Fd) : F.rd.1.taken = F.taken /\ F.rd.1.limit = F.limit := ⟨(rd_facts F).1, (rd_facts F).2.1⟩
theorem Er.kp {X : Nat -> Prop} {w w' : World} (h : Er w) (hk : Kp X w w') (h2 : ¬ X 2) (h3 : ¬ X 3) : Er w' := by
  obtain ⟨⟨a, b, e1⟩, c, d, e2⟩ := h
  have l2 := lt_of_cell e1
  have l3 := lt_of_cell e2
  have k2 := hk.block 2 l2 h2
  have k3 := hk.block 3 l3 h3
  exact ⟨⟨a, b, by simpa [World.cell?, k2] using e1⟩, c, d, by simpa [World.cell?, k3] using e2⟩
theorem kept_by {w : World} {fb : Nat} {F : Fd} {kv ck cd cm : Value} {hd lf : Int} (hx : IsFx w fb F kv hd lf ck cd cm) {kg n cp : Nat} (e : kv = .slice (some ⟨kg, 0, none⟩) n cp) : kg < w.heap.size /\ ∀ i x, F.kept[i]? = some x -> w.cell? ⟨kg, 0 + i, none⟩ = some (b8 x) := by
  subst e
  have hn : n = F.kept.length := by
    obtain ⟨ao, c, e, _⟩ := row_shape hx.kept
    injection e
  subst hn
  refine ⟨row_lt hx.kept kg rfl, fun i x hi => ?_⟩
  rw [Nat.zero_add]
  refine row_cell hx.kept _ _ ?_
  rw [List.getElem?_map, hi]; rfl
theorem isf_keep {w w4 : World} {fb g' cap : Nat} {F : Fd} {kv ck cd cm : Value} {hd lf : Int} {p : Bs} (hx : IsFx w fb F kv hd lf ck cd cm) (b4 : Box w4 136 fb (fdA fb (F.put p) (.slice (some ⟨g', 0, none⟩) (F.kept.length + p.length) cap) hd lf ck cd cm)) (r4 : w4.ownsRow 0 5 1 (.slice (some ⟨g', 0, none⟩) (F.kept.length + p.length) cap) (F.kept.length + p.length) (F.kept.map b8 ++ p.map b8)) (k4 : Kp (XF fb kv) w w4) (a4 : kv.ownBlock = some g' \/ w.heap.size <= g') : IsFx w4 fb (F.put p) (.slice (some ⟨g', 0, none⟩) (F.kept.length + p.length) cap) hd lf ck cd cm :=
  isfx_kp hx k4 b4 rfl (by
      show w4.ownsRow 0 5 1 _ (F.kept ++ p).length ((F.kept ++ p).map b8)
      rw [List.length_append, List.map_append]; exact r4) (fun k hk => by simp [Value.ownBlock] at hk; subst hk; exact a4)
theorem line_end {w : World} {fb : Nat} {F : Fd} {kv : Value} (h : IsF w fb F kv) (hok : F.Ok) {v : Value} {l : Bs} (hv : Ck w (XF fb kv) v l) (hl : 0 < l.length) (hl2 : l.length <= 1099511627776) (ht : F.taken <= 2199023255552) (hst : F.st = 0) (hE : Er w) (hX : ¬ XF fb kv 2 /\ ¬ XF fb kv 3) (p t : Bs) (hpt : l.take (2050 - F.kept.length) = p ++ 10 :: t) (hp : (10 : UInt8) ∉ p)
    (h136 : ∀ w4 kv4, IsF w4 fb (F.put (p ++ [10])) kv4 -> Er w4 -> (∃ g n c, kv4 = .slice (some ⟨g, 0, none⟩) n c) -> Calls Tryz.prog 136 #[.pointer (some ⟨fb, 0, none⟩)] w4 fun e w' => RdF (F.put (p ++ [10])) w4 fb kv4 e w') :
    Calls Tryz.prog 89 #[.pointer (some ⟨fb, 0, none⟩), v] w fun e w' => StP F l w fb kv e w' := by
  obtain ⟨g, o, c, rfl, hc1, -, -, hc⟩ := hv.by hl
  obtain ⟨hd, lf, ck, cd, cm, hx, hh, -⟩ := h
  obtain ⟨ql, -⟩ := hok.line hst
  have hsh := hok.short hst
  obtain ⟨ao, cp, ekv, -, -, -, -⟩ := row_shape hx.kept
  have c4 : w.cell? ⟨fb, 4, none⟩ = some (.slice ao F.kept.length cp) := by rw [<- ekv]; exact hx.box.cell 4
  obtain ⟨u, hu⟩ : ∃ u, min l.length (2050 - F.kept.length) = u := ⟨_, rfl⟩
  have hu1 : u <= l.length := by omega
  have hch : l.take u = p ++ 10 :: t := by rw [<- hpt, <- hu, Nat.min_comm, List.take_eq_take_min (i := 2050 - F.kept.length)]
  have hul : (p ++ 10 :: t).length = u := by rw [<- hch, List.length_take]; omega
  have hpu : p.length + 1 <= u := by rw [<- hul]; simp
  have ht2 : l.take (p.length + 1) = p ++ [10] := by
    have e : l.take (p.length + 1) = (l.take u).take (p.length + 1) := by rw [List.take_take, Nat.min_eq_left hpu]
    rw [e, hch, List.take_append, List.take_of_length_le (by omega)]
    simp
  have hix : Lib.indexByte (l.take u) 10 = (p.length : Int) := by
    rw [hch]
    rcases indexByte_spec 10 (p ++ 10 :: t) with ⟨_, h4⟩ | ⟨p', t', h3, h4, h5⟩
    . exact absurd (by simp) h4
    . rw [h5]
      have : p = p' := by
        rcases List.append_eq_append_iff.1 h3 with ⟨a, h6, h7⟩ | ⟨a, h6, h7⟩
        . cases a with
          | nil => simpa using h6.symm
          | cons x a => simp at h7; rw [h6] at h4; exact absurd (by simp [<- h7.1]) h4
        . cases a with
          | nil => simpa using h6
          | cons x a => simp at h7; rw [h6] at hp; exact absurd (by simp [<- h7.1]) hp
      rw [this]
  have htk := hv.take u hu1
  obtain ⟨g2, o2, c2, e2, -, -, -, hcu⟩ := htk.by (by rw [List.length_take]; omega)
  have hul2 : (l.take u).length = u := by rw [hch]; exact hul
  rw [hul2] at e2
  have h118 := ix_118 w g o c (l.take u) (fun i x hi => by
    rw [List.getElem?_take] at hi
    split at hi
    . exact hc i x hi
    . cases hi)
  rw [hix, hul2] at h118
  clear e2 hcu htk
  have hkl : F.kept.length <= 4398046511104 := by omega
  have h135 := keep_135 hx.box hx.kept (hv.take (p.length + 1) (by omega)) (by rw [ht2]; simp) (by rw [ht2]; simp; omega) hkl
  rw [ht2] at h135
  have e0 : (p ++ [(10 : UInt8)]).length = p.length + 1 := by simp
  have hend : ∀ w4 g' cap w5 e, Box w4 136 fb (fdA fb (F.put (p ++ [10])) (.slice (some ⟨g', 0, none⟩) (F.kept.length + (p ++ [10]).length) cap) hd lf ck cd cm) -> w4.ownsRow 0 5 1 (.slice (some ⟨g', 0, none⟩) (F.kept.length + (p ++ [10]).length) cap) (F.kept.length + (p ++ [10]).length) (F.kept.map b8 ++ (p ++ [10]).map b8) -> Kp (XF fb kv) w w4 -> (kv.ownBlock = some g' \/ w.heap.size <= g') -> RdF (F.put (p ++ [10])) w4 fb (.slice (some ⟨g', 0, none⟩) (F.kept.length + (p ++ [10]).length) cap) e w5 -> e = .returned (.bool (F.put (p ++ [10])).rd.2) /\ StP F l w fb kv (.returned (.tuple #[.int .i64 ((p.length : Int) + 1), .bool (F.put (p ++ [10])).rd.2])) w5 := by
    rintro w4 g' cap w5 e b4 r4 k4 a4 ⟨kv5, rfl, i5, k5, n5, n6⟩
    refine ⟨rfl, p.length + 1, (F.put (p ++ [10])).rd.2, (F.put (p ++ [10])).rd.1, kv5, by simp, by omega, i5, ?_, fun k hk => ?_, fun e => by omega, (rd_same _).1, (rd_same _).2, fun hw => ?_, fun _ => nd_cell i5 (rd_data _), (Kn.same hx.box b4).trans n6 k4.size, ?_⟩
    . refine k4.trans k5 (fun i hi => hi) (fun i hi => ?_)
      rcases hi with rfl | hi
      . exact .inl (.inl rfl)
      . simp [Value.ownBlock] at hi
        subst hi
        rcases a4 with a4 | a4
        . exact .inl (.inr a4)
        . exact .inr a4
    . have := n5 k hk
      simp [Value.ownBlock] at this
      subst this
      exact a4
    . have h3 := ok_rd (F := (F.tk (p.length + 1)).put (p ++ [10])) hst (by simp [Fd.put, Fd.tk]; omega) hok.left hok.limit (by have := hok.taken; simp [Fd.put, Fd.tk]; omega)
      have e3 : (F.tk (p.length + 1)).put (p ++ [10]) = (F.put (p ++ [10])).tk (p.length + 1) := rfl
      rw [e3, rd_tk] at h3
      exact h3 hw
    . refine run_cut ?_
      rw [ht2, run_line_end hst hsh p hp (by omega)]
      have e3 : (F.tk (p.length + 1)).put (p ++ [10]) = (F.put (p ++ [10])).tk (p.length + 1) := rfl
      rw [e3, rd_tk]
      rfl
  have hmid : ∀ w4 g' cap, Box w4 136 fb (fdA fb (F.put (p ++ [10])) (.slice (some ⟨g', 0, none⟩) (F.kept.length + (p ++ [10]).length) cap) hd lf ck cd cm) -> w4.ownsRow 0 5 1 (.slice (some ⟨g', 0, none⟩) (F.kept.length + (p ++ [10]).length) cap) (F.kept.length + (p ++ [10]).length) (F.kept.map b8 ++ (p ++ [10]).map b8) -> Kp (XF fb kv) w w4 -> (kv.ownBlock = some g' \/ w.heap.size <= g') -> Calls Tryz.prog 136 #[.pointer (some ⟨fb, 0, none⟩)] w4 fun e w' => RdF (F.put (p ++ [10])) w4 fb (.slice (some ⟨g', 0, none⟩) (F.kept.length + (p ++ [10]).length) cap) e w' := by
    intro w4 g' cap b4 r4 k4 a4
    have h0 : (F.put (p ++ [10])).st = 0 := hst
    exact h136 w4 _ ⟨hd, lf, ck, cd, cm, isf_keep hx b4 r4 k4 a4, fun e => by omega, fun e => by omega⟩ (hE.kp k4 hX.1 hX.2) ⟨_, _, _, rfl⟩
  rw [e0] at h135 hend hmid
  have d1 : min (l.length : Int) (2050 - (F.kept.length : Int)) = (u : Int) := by omega
  have d2 : (u : Int) <= (c : Int) := by omega
  have d3 : (0 : Int) <= (p.length : Int) := by omega
  have d4 : (p.length : Int) + 1 <= (c : Int) := by omega
  have d5 : (p.length : Int) <= 2050 := by omega
  have d6 : ((p.length : Int) + 1).toNat = p.length + 1 := by omega
  clear hx hh hok hv hl hl2 hc hch hul hpt hp ht2 hix hul2 h136 hkl hE hX hsh e0 hu ekv
  go_enter Tryz.func89, Tryz.ntmps89
  go_wp2_with (first | (go_at_call 118; go_must ((with_reducible refine h118.mono ?_); rintro e w4 ⟨rfl, rfl⟩)) | (go_at_call 135; go_must ((with_reducible refine h135.mono ?_); rintro e w4 ⟨rfl, g', cap, b4, r4, k4, a4⟩)) | (go_at_call 136; go_must ((with_reducible refine (hmid _ _ _ b4 r4 k4 a4).mono ?_); intro e w5 hrd; (obtain ⟨he5, hst5⟩ := hend _ _ _ _ _ b4 r4 k4 a4 hrd); (rw [he5]))))
  go_ret2
  exact hst5
end Go.Proofs.YtobegepebochkaaGreatDoor
namespace Go.Proofs.YtobegepebochkaaGreatDoor
open Go.RowKit Go.Maps
theorem line_short {w : World} {fb : Nat} {F : Fd} {kv : Value} (h : IsF w fb F kv) (hok : F.Ok) {v : Value} {l : Bs} (hv : Ck w (XF fb kv) v l) (hl : 0 < l.length) (hl2 : l.length <= 1099511627776) (ht : F.taken <= 2199023255552) (hst : F.st = 0) (p : Bs) (hpt : l.take (2050 - F.kept.length) = p) (hp : (10 : UInt8) ∉ p) (hsm : ¬ 2048 < (trim (F.kept ++ p)).length) :
    Calls Tryz.prog 89 #[.pointer (some ⟨fb, 0, none⟩), v] w fun e w' => StP F l w fb kv e w' := by
  obtain ⟨g, o, c, rfl, hc1, -, -, hc⟩ := hv.by hl
  obtain ⟨hd, lf, ck, cd, cm, hx, hh, -⟩ := h
  obtain ⟨ql, -⟩ := hok.line hst
  have hsh := hok.short hst
  obtain ⟨ao, cp, ekv, -, -, -, -⟩ := row_shape hx.kept
  have c4 : w.cell? ⟨fb, 4, none⟩ = some (.slice ao F.kept.length cp) := by rw [<- ekv]; exact hx.box.cell 4
  obtain ⟨u, hu⟩ : ∃ u, min l.length (2050 - F.kept.length) = u := ⟨_, rfl⟩
  have hu1 : u <= l.length := by omega
  have hch : l.take u = p := by rw [<- hpt, <- hu, Nat.min_comm, List.take_eq_take_min (i := 2050 - F.kept.length)]
  have hul : p.length = u := by rw [<- hch, List.length_take]; omega
  have hix : Lib.indexByte p 10 = -1 := by
    rcases indexByte_spec 10 p with ⟨h3, _⟩ | ⟨p', t', h3, _, _⟩
    . exact h3
    . exact absurd (by rw [h3]; simp) hp
  have h118 := ix_118 w g o c p (fun i x hi => by
    rw [<- hch, List.getElem?_take] at hi
    split at hi
    . exact hc i x hi
    . cases hi)
  rw [hix, hul] at h118
  have hkl : F.kept.length <= 4398046511104 := by omega
  have h135 := keep_135 hx.box hx.kept (hv.take u hu1) (by rw [hch]; omega) (by rw [hch]; omega) hkl
  rw [hch] at h135
  have hrun := run_line p hst hsh hp (by omega)
  rw [if_neg hsm] at hrun
  have hend : ∀ w4 g' cap w5, Box w4 136 fb (fdA fb (F.put p) (.slice (some ⟨g', 0, none⟩) (F.kept.length + p.length) cap) hd lf ck cd cm) -> w4.ownsRow 0 5 1 (.slice (some ⟨g', 0, none⟩) (F.kept.length + p.length) cap) (F.kept.length + p.length) (F.kept.map b8 ++ p.map b8) -> Kp (XF fb kv) w w4 -> (kv.ownBlock = some g' \/ w.heap.size <= g') -> w4.grownBy w5 none -> StP F l w fb kv (.returned (.tuple #[.int .i64 (u : Int), .bool false])) w5 := by
    intro w4 g' cap w5 b4 r4 k4 a4 g5
    have hx4 := isf_keep hx b4 r4 k4 a4
    have hx5 : IsFx w5 fb (F.put p) _ hd lf ck cd cm := isfx_kp hx4 (Kp.of g5) (b4.kept g5 (by simp)) rfl (row_kept hx4.kept g5 (by simp)) (fun k hk => .inl hk)
    have h0 : (F.put p).st = 0 := hst
    refine ⟨u, false, F.put p, _, rfl, hu1, ⟨hd, lf, ck, cd, cm, hx5, fun e => by omega, fun e => by omega⟩, k4.trans (Kp.of (F := fun _ => False) g5) (fun i hi => hi) (fun i hi => hi.elim), fun k hk => by simp [Value.ownBlock] at hk; subst hk; exact a4, fun e => by omega, rfl, rfl, fun _ => ?_, (fun e => by cases e), Kn.same hx.box hx5.box, ?_⟩
    . have h3 := ok_run p hok
      rw [hrun, hul] at h3
      exact h3
    . refine run_cut_no ?_
      rw [hch, hrun, hul]
      rfl
  have hmid : ∀ w4 g' cap, Box w4 136 fb (fdA fb (F.put p) (.slice (some ⟨g', 0, none⟩) (F.kept.length + p.length) cap) hd lf ck cd cm) -> w4.ownsRow 0 5 1 (.slice (some ⟨g', 0, none⟩) (F.kept.length + p.length) cap) (F.kept.length + p.length) (F.kept.map b8 ++ p.map b8) -> Kp (XF fb kv) w w4 -> (kv.ownBlock = some g' \/ w.heap.size <= g') -> Calls Tryz.prog 137 #[.slice (some ⟨g', 0, none⟩) (F.kept.length + p.length) cap] w4 fun e w' => e = .returned (.bool false) /\ w4.grownBy w' none := by
    intro w4 g' cap b4 r4 k4 a4
    have hx4 := isf_keep hx b4 r4 k4 a4
    obtain ⟨q1, q2⟩ := kept_by hx4 rfl
    obtain ⟨_, _, e, _, q3, _, _⟩ := row_shape r4
    injection e with _ _ e
    have q4 : (F.put p).kept.length = F.kept.length + p.length := by show (F.kept ++ p).length = _; simp
    have h7 := long_137 (w := w4) (g := g') (o := 0) (c := cap) (l := (F.put p).kept) (by omega) (by omega) q1 q2
    rw [q4] at h7
    have e2 : decide (2048 < (trim (F.put p).kept).length) = false := decide_eq_false hsm
    rw [e2] at h7
    exact h7
  rw [hul] at h135 hend hmid
  have d1 : min (l.length : Int) (2050 - (F.kept.length : Int)) = (u : Int) := by omega
  have d2 : (u : Int) <= (c : Int) := by omega
  clear hx hh hok hv hl hl2 hc hch hul hpt hp hix hkl hsh hu ekv hsm hrun
  go_enter Tryz.func89, Tryz.ntmps89
  go_wp2_with (first | (go_at_call 118; go_must ((with_reducible refine h118.mono ?_); rintro e w4 ⟨rfl, rfl⟩)) | (go_at_call 135; go_must ((with_reducible refine h135.mono ?_); rintro e w4 ⟨rfl, g', cap, b4, r4, k4, a4⟩; (have q4 : w4.cell? ⟨fb, 4, none⟩ = some (.slice (some ⟨g', 0, none⟩) (F.kept.length + u) cap) := b4.cell 4))) | (go_at_call 137; go_must ((with_reducible refine (hmid _ _ _ b4 r4 k4 a4).mono ?_); rintro e w5 ⟨rfl, g5⟩)))
  go_ret2
  exact hend _ _ _ _ b4 r4 k4 a4 g5
end Go.Proofs.YtobegepebochkaaGreatDoor
namespace Go.Proofs.YtobegepebochkaaGreatDoor
open Go.RowKit Go.Maps
theorem assert59 (s : ByteArray) (w : World) : (Instr.typeAssert (.iface 187 (.string s)) 20 187 true).run Tryz.prog w = .ok (.tuple #[.string s, .bool true]) w := by
  simp [Instr.typeAssert, go_sem, Tryz.underlying187, Tryz.underlying20]
abbrev wrv (t : Bs) (p : Int) : Value := .agg #[.int .i64 (if t = [] then 1 else 2), sv t, .int .i64 p]
theorem wrong_15 (t : Bs) (p : Int) (w : World) :
    Calls Tryz.prog 100 #[.iface 187 (sv t), .int .i64 p] w fun e w' => e = .returned (wrv t p) /\ w.grownBy w' none := by
  have hb := Box.new w 43 #[.int .i64 0, .string ⟨#[]⟩, .int .i64 0]
  have hta := assert59
  by_cases ht : t = []
  . subst ht
    go_enter Tryz.func100, Tryz.ntmps100
    go_wp2
    exact ⟨rfl, _, res15 (Box.new w 43 _) _ rfl, by simp, gb_alloc (gb_refl _ _) _⟩
  . have d1 : (t == []) = false := beq_eq_false_iff_ne.2 ht
    have d2 : t.isEmpty = false := by simpa using ht
    go_enter Tryz.func100, Tryz.ntmps100
    go_wp2
    exact ⟨rfl, _, res15 (Box.new w 43 _) _ rfl, by simp [ht], gb_alloc (gb_refl _ _) _⟩
theorem catch_14 {w : World} {pb cb bb wb : Nat} (t : Bs) (p : Int) (older : List PanicEntry) (a1 a2 a3 a4 a5 a6 a7 a8 a9 a10 a11 d e0 e1 e2 : Value) (hp : Box w 3 pb #[.int .i64 p]) (hc : Box w 41 cb #[a1, a2, a3, a4, a5, a6, a7, a8, a9, a10, a11]) (hb : Box w 3 bb #[d]) (hw : Box w 43 wb #[e0, e1, e2]) (hne : bb ≠ pb) :
    CallsD Tryz.prog 99 #[.pointer (some ⟨pb, 0, none⟩), .pointer (some ⟨cb, 0, none⟩), .pointer (some ⟨bb, 0, none⟩), .pointer (some ⟨wb, 0, none⟩)] (.panicking ({ v := .iface 187 (sv t), recovered := false } :: older)) w fun e u' w' =>
      e = .returned (.tuple #[]) /\ u' = .panicking ({ v := .iface 187 (sv t), recovered := true } :: older) /\ Box w' 41 cb (Z31 0 false) /\ Box w' 3 bb #[.int .i64 (-1)] /\ Box w' 43 wb #[.int .i64 (if t = [] then 1 else 2), sv t, .int .i64 p] /\ Kp (fun k => k = cb \/ k = bb \/ k = wb) w w' := by
  have h15 : ∀ W, Calls Tryz.prog 100 #[.iface 187 (sv t), .int .i64 p] W fun e w' => e = .returned (.agg #[.int .i64 (if t = [] then 1 else 2), sv t, .int .i64 p]) /\ W.grownBy w' none := fun W => wrong_15 t p W
  obtain ⟨kd, hkd⟩ : ∃ kd : Int, (if t = [] then (1 : Int) else 2) = kd := ⟨_, rfl⟩
  rw [hkd] at h15 ⊢
  clear hkd
  refine callsD_of_wpS Tryz.func99 rfl fun c₀ cs hu => ?_
  apply wpS_seq
  apply wpS_region
  simp [wpOpsS, go_sem, recoverD, hu, Tryz.ntmps99, Exit.thenS]
  refine wpS_of_wp ?_
  simp only [Array.replicate_succ, Array.replicate_zero, List.push_toArray, List.append_toArray, List.setIfInBounds_toArray, List.set_cons_zero, List.set_cons_succ, List.nil_append, List.cons_append]
  have hp0 : w.cell? ⟨pb, 0, none⟩ = some (.int .i64 p) := hp.cell 0
  have n1 : ¬ cb = bb := ne_of_type hc hb (by decide)
  have n2 : ¬ cb = wb := ne_of_type hc hw (by decide)
  have n3 : ¬ bb = wb := ne_of_type hb hw (by decide)
  have m1 : ¬ bb = cb := fun e => n1 e.symm
  have m2 : ¬ wb = cb := fun e => n2 e.symm
  have m3 : ¬ wb = bb := fun e => n3 e.symm
  go_wp2_with (go_at_call 100; go_must ((with_reducible refine (h15 _).mono ?_); rintro e w2 ⟨rfl, hg2⟩; (have hc1 := hc.kept hg2 (by simp)); (have hb1 := hb.kept hg2 (by simp)); (have hw1 := hw.kept hg2 (by simp)); (have cbz0 := hc1.fz 0); (have cbz1 := hc1.fz 1); (have cbz2 := hc1.fz 2); (have cbz3 := hc1.fz 3); (have cbz4 := hc1.fz 4); (have cbz5 := hc1.fz 5); (have cbz6 := hc1.fz 6); (have cbz7 := hc1.fz 7); (have cbz8 := hc1.fz 8); (have cbz9 := hc1.fz 9); (have cbz10 := hc1.fz 10); (have cbc0 : w2.cell? ⟨cb, 0, none⟩ = some a1 := hc1.cell 0); (have cbc1 : w2.cell? ⟨cb, 1, none⟩ = some a2 := hc1.cell 1); (have cbc2 : w2.cell? ⟨cb, 2, none⟩ = some a3 := hc1.cell 2); (have cbc3 : w2.cell? ⟨cb, 3, none⟩ = some a4 := hc1.cell 3); (have cbc4 : w2.cell? ⟨cb, 4, none⟩ = some a5 := hc1.cell 4); (have cbc5 : w2.cell? ⟨cb, 5, none⟩ = some a6 := hc1.cell 5); (have cbc6 : w2.cell? ⟨cb, 6, none⟩ = some a7 := hc1.cell 6); (have cbc7 : w2.cell? ⟨cb, 7, none⟩ = some a8 := hc1.cell 7); (have cbc8 : w2.cell? ⟨cb, 8, none⟩ = some a9 := hc1.cell 8); (have cbc9 : w2.cell? ⟨cb, 9, none⟩ = some a10 := hc1.cell 9); (have cbc10 : w2.cell? ⟨cb, 10, none⟩ = some a11 := hc1.cell 10); (have bbz0 := hb1.fz 0); (have bbc0 : w2.cell? ⟨bb, 0, none⟩ = some d := hb1.cell 0); (have wbz0 := hw1.fz 0); (have wbz1 := hw1.fz 1); (have wbz2 := hw1.fz 2); (have wbc0 : w2.cell? ⟨wb, 0, none⟩ = some e0 := hw1.cell 0); (have wbc1 : w2.cell? ⟨wb, 1, none⟩ = some e1 := hw1.cell 1); (have wbc2 : w2.cell? ⟨wb, 2, none⟩ = some e2 := hw1.cell 2)))
  obtain ⟨hx1, gx1⟩ := box11 (v0 := (.int .i64 0)) (v1 := (.slice none 0 0)) (v2 := (.int .u64 0)) (v3 := (.int .i64 0)) (v4 := (.int .u64 0)) (v5 := (.int .u64 0)) (v6 := (.slice none 0 0)) (v7 := (.bool false)) (v8 := (.bool false)) (v9 := (.slice none 0 0)) (v10 := (.string ⟨#[]⟩)) hc1
  generalize (((((((((((w2.setCell ⟨cb, 0, none⟩ (.int .i64 0)).setCell ⟨cb, 1, none⟩ (.slice none 0 0)).setCell ⟨cb, 2, none⟩ (.int .u64 0)).setCell ⟨cb, 3, none⟩ (.int .i64 0)).setCell ⟨cb, 4, none⟩ (.int .u64 0)).setCell ⟨cb, 5, none⟩ (.int .u64 0)).setCell ⟨cb, 6, none⟩ (.slice none 0 0)).setCell ⟨cb, 7, none⟩ (.bool false)).setCell ⟨cb, 8, none⟩ (.bool false)).setCell ⟨cb, 9, none⟩ (.slice none 0 0)).setCell ⟨cb, 10, none⟩ (.string ⟨#[]⟩)) = S1 at hx1 gx1 ⊢
  have hb2 := hb1.kept gx1 (by simp [m1])
  have hw2 := hw1.kept gx1 (by simp [m2])
  have hb3 := hb2.set 0 (.int .i64 (-1))
  have gx2 : S1.grownBy (S1.setCell ⟨bb, 0, none⟩ (.int .i64 (-1))) (some bb) := gb_setCell (gb_refl _ _) _
  have hx2 := hx1.kept gx2 (by simp [n1])
  have hw3 := hw2.kept gx2 (by simp [m3])
  simp only [List.setIfInBounds_toArray, List.set_cons_zero] at hb3
  generalize S1.setCell ⟨bb, 0, none⟩ (.int .i64 (-1)) = S2 at hb3 gx2 hx2 hw3 ⊢
  obtain ⟨hw4, gx3⟩ := box3 (v0 := .int .i64 kd) (v1 := .string ⟨t.toArray⟩) (v2 := .int .i64 p) hw3
  have hx3 := hx2.kept gx3 (by simp [n2])
  have hb4 := hb3.kept gx3 (by simp [n3])
  generalize ((S2.setCell ⟨wb, 0, none⟩ (.int .i64 kd)).setCell ⟨wb, 1, none⟩ (.string ⟨t.toArray⟩)).setCell ⟨wb, 2, none⟩ (.int .i64 p) = S3 at hw4 gx3 hx3 hb4 ⊢
  have hkp : Kp (fun k => k = cb \/ k = bb \/ k = wb) w S3 := (((Kp.of hg2).step gx1 (fun i e => by cases e; exact .inl (.inl rfl))).step gx2 (fun i e => by cases e; exact .inl (.inr (.inl rfl)))).step gx3 (fun i e => by cases e; exact .inl (.inr (.inr rfl)))
  simp [bodyPostS, results, Tryz.results99]
  exact ⟨hx3, hb4, hw4, hkp⟩
theorem idle_14 (p1 p2 p3 p4 : Addr) (w : World) :
    CallsD Tryz.prog 99 #[.pointer (some p1), .pointer (some p2), .pointer (some p3), .pointer (some p4)] .returning w fun e u' w' => e = .returned (.tuple #[]) /\ u' = .returning /\ w' = w := by
  refine callsD_of_wpS Tryz.func99 rfl fun c₀ cs hu => ?_
  apply wpS_seq
  apply wpS_region
  simp [wpOpsS, go_sem, recoverD, hu, Tryz.ntmps99, Exit.thenS]
  refine wpS_of_wp ?_
  simp only [Array.replicate_succ, Array.replicate_zero, List.push_toArray, List.append_toArray, List.setIfInBounds_toArray, List.set_cons_zero, List.set_cons_succ, List.nil_append, List.cons_append]
  go_wp2
  cases c₀
  simp_all [bodyPostS, results, Tryz.results99]
end Go.Proofs.YtobegepebochkaaGreatDoor
namespace Go.Proofs.YtobegepebochkaaGreatDoor
open Go.RowKit Go.Maps
def LnP (l : Bs) (w : World) (e : Ending) (w' : World) : Prop :=
  ((∃ c n kv mv, lineS l = .inl (c, n) /\ e = .returned (.tuple #[.agg (cmA c kv mv), .int .i64 n, .agg #[.int .i64 0, sv [], .int .i64 0]]) /\ w'.ownsRow w.heap.size 9 1 kv c.keys.length (c.keys.map sv) /\ w'.ownsRow w.heap.size 79 3 mv c.mt.length (fcs c.mt)) \/
    ∃ k t p, lineS l = .inr (k, t, p) /\ e = .returned (.tuple #[.agg (Z31 0 false), .int .i64 (-1), .agg #[.int .i64 k, sv t, .int .i64 p]])) /\ w.grownBy w' none
theorem door_up {w5 : World} {pb cb bb wb : Nat} (t : Bs) (p : Int) (a1 a2 a3 a4 a5 a6 a7 a8 a9 a10 a11 d e0 e1 e2 : Value) (hp : Box w5 3 pb #[.int .i64 p]) (hc : Box w5 41 cb #[a1, a2, a3, a4, a5, a6, a7, a8, a9, a10, a11]) (hb : Box w5 3 bb #[d]) (hw : Box w5 43 wb #[e0, e1, e2]) (hne : bb ≠ pb)
    (T : Array Value) (h4 : T[4]?.getD undef = .pointer (some ⟨cb, 0, none⟩)) (h5 : T[5]?.getD undef = .pointer (some ⟨bb, 0, none⟩)) (h6 : T[6]?.getD undef = .pointer (some ⟨wb, 0, none⟩)) (R : Ending -> World -> Prop)
    (hR : ∀ w', Kp (fun k => k = cb \/ k = bb \/ k = wb) w5 w' -> R (.returned (.tuple #[.agg (Z31 0 false), .int .i64 (-1), .agg #[.int .i64 (if t = [] then 1 else 2), sv t, .int .i64 p]])) w') :
    bodyPostD Tryz.prog Tryz.f63 R (Exit.panic [{ v := .iface 187 (sv t), recovered := false }]) { tmps := T, defers := [{ target := .fn (.func 99) #[.pointer (some ⟨pb, 0, none⟩), .pointer (some ⟨cb, 0, none⟩), .pointer (some ⟨bb, 0, none⟩), .pointer (some ⟨wb, 0, none⟩)], args := #[] }] } w5 := by
  refine leaves_cons (f := 99) (args := #[.pointer (some ⟨pb, 0, none⟩), .pointer (some ⟨cb, 0, none⟩), .pointer (some ⟨bb, 0, none⟩), .pointer (some ⟨wb, 0, none⟩)]) (by simp) (by simp [go_sem]) ?_
  refine (catch_14 t p [] a1 a2 a3 a4 a5 a6 a7 a8 a9 a10 a11 d e0 e1 e2 hp hc hb hw hne).mono ?_
  rintro e u' w' ⟨rfl, rfl, q1, q2, q3, q4⟩
  have hr := res10 q1 q2 q3 T h4 h5 h6
  simp [Leaves, settle]
  exact ⟨_, hr, hR _ q4⟩
theorem door_ok {w5 : World} {cb bb wb : Nat} (p1 p2 p3 p4 : Addr) (a1 a2 a3 a4 a5 a6 a7 a8 a9 a10 a11 d e0 e1 e2 : Value) (hc : Box w5 41 cb #[a1, a2, a3, a4, a5, a6, a7, a8, a9, a10, a11]) (hb : Box w5 3 bb #[d]) (hw : Box w5 43 wb #[e0, e1, e2])
    (T : Array Value) (h4 : T[4]?.getD undef = .pointer (some ⟨cb, 0, none⟩)) (h5 : T[5]?.getD undef = .pointer (some ⟨bb, 0, none⟩)) (h6 : T[6]?.getD undef = .pointer (some ⟨wb, 0, none⟩)) (R : Ending -> World -> Prop)
    (hR : R (.returned (.tuple #[.agg #[a1, a2, a3, a4, a5, a6, a7, a8, a9, a10, a11], d, .agg #[e0, e1, e2]])) w5) :
    bodyPostD Tryz.prog Tryz.f63 R Exit.ret { tmps := T, defers := [{ target := .fn (.func 99) #[.pointer (some p1), .pointer (some p2), .pointer (some p3), .pointer (some p4)], args := #[] }] } w5 := by
  refine leaves_cons (f := 99) (args := #[.pointer (some p1), .pointer (some p2), .pointer (some p3), .pointer (some p4)]) (by simp) (by simp [go_sem]) ?_
  refine (idle_14 p1 p2 p3 p4 w5).mono ?_
  rintro e u' w' ⟨rfl, rfl, rfl⟩
  have hr := res10 hc hb hw T h4 h5 h6
  simp [Leaves, settle]
  exact ⟨_, hr, hR⟩
theorem ln0 (w : World) (W4 : World) (hW : (((w.alloc (.cells (Z31 0 false) 41)).alloc (.cells #[.int .i64 0] 3)).alloc (.cells #[.int .i64 0, .string ⟨#[]⟩, .int .i64 0] 43)).alloc (.cells #[.int .i64 (-1)] 3) = W4) :
    Box W4 41 w.heap.size (Z31 0 false) /\ Box W4 3 (w.heap.size + 1) #[.int .i64 0] /\ Box W4 43 (w.heap.size + 1 + 1) #[.int .i64 0, .string ⟨#[]⟩, .int .i64 0] /\ Box W4 3 (w.heap.size + 1 + 1 + 1) #[.int .i64 (-1)] /\ w.grownBy W4 none := by
  subst hW
  have b1 := Box.new (w.alloc (.cells (Z31 0 false) 41)) 3 #[.int .i64 0]
  have b2 := Box.new ((w.alloc (.cells (Z31 0 false) 41)).alloc (.cells #[.int .i64 0] 3)) 43 #[.int .i64 0, .string ⟨#[]⟩, .int .i64 0]
  have b3 := Box.new (((w.alloc (.cells (Z31 0 false) 41)).alloc (.cells #[.int .i64 0] 3)).alloc (.cells #[.int .i64 0, .string ⟨#[]⟩, .int .i64 0] 43)) 3 #[.int .i64 (-1)]
  simp only [World.size_alloc] at b1 b2 b3
  exact ⟨(Box.new w 41 _).kept (gb_alloc (gb_alloc (gb_alloc (gb_refl _ none) _) _) _) (by simp), b1.kept (gb_alloc (gb_alloc (gb_refl _ none) _) _) (by simp), b2.kept (gb_alloc (gb_refl _ none) _) (by simp), b3, gb_alloc (gb_alloc (gb_alloc (gb_alloc (gb_refl w none) _) _) _) _⟩
theorem line_up {w : World} (gb : Nat) (v : Value) (l : Bs) (hB : By w v l) (t : Bs) (ht : lineS l = .inr (if t = [] then 1 else 2, t, -1)) (h16 : ∀ W, w.grownBy W none -> Calls Tryz.prog 101 #[.map (some gb), v] W fun e w' => e = up ⟨t.toArray⟩ /\ W.grownBy w' none) :
    Calls Tryz.prog 63 #[.map (some gb), v] w fun e w' => LnP l w e w' := by
  have hmf : ∀ (fn : Fn) (first cap : Array Value) (w : World), (Instr.makeFunc fn first cap).run Tryz.prog w = .ok (.func fn first cap) w := fun _ _ _ _ => rfl
  obtain ⟨a, c, rfl⟩ := hB.shape
  obtain ⟨q1, q2, q3, q4, q5⟩ := ln0 w _ rfl
  have h16' := h16 _ q5
  clear h16
  go_enter_defers Tryz.func63, Tryz.ntmps63
  go_wp2_with (go_at_call 101; go_must ((with_reducible refine h16'.mono ?_); rintro e w5 ⟨rfl, hg5⟩))
  refine door_up t (-1) _ _ _ _ _ _ _ _ _ _ _ _ _ _ _ (q4.kept hg5 (by simp)) (q1.kept hg5 (by simp)) (q2.kept hg5 (by simp)) (q3.kept hg5 (by simp)) (by omega) _ rfl rfl rfl _ ?_
  intro w' hk
  refine ⟨.inr ⟨_, _, _, ht, rfl⟩, ?_⟩
  refine Kp.grown (F := fun k => k = w.heap.size \/ k = w.heap.size + 1 \/ k = w.heap.size + 1 + 1) ?_ (fun i hi => by omega)
  exact Kp.trans (Kp.of (F := fun _ => False) (gb_trans q5 hg5)) hk (fun i h => h.elim) (fun i h => .inl h)
end Go.Proofs.YtobegepebochkaaGreatDoor
