import Derived.Test.YtobegepebochkaaGreatDoorRPan
import Derived.Test.YtobegepebochkaaGreatDoorRD
set_option linter.unusedVariables false
set_option linter.unusedSimpArgs false
set_option maxRecDepth 100000
set_option maxHeartbeats 16000000
namespace Go.Proofs.YtobegepebochkaaGreatDoor
open Go.RowKit Go.Maps
def RdF (F : Fd) (w : World) (fb : Nat) (kv : Value) (e : Ending) (w' : World) : Prop :=
  ∃ kv', e = .returned (.bool F.rd.2) /\ IsF w' fb F.rd.1 kv' /\ Kp (XF fb kv) w w' /\ (∀ k, kv'.ownBlock = some k -> kv.ownBlock = some k) /\ Kn w w' fb
theorem rd_tk (F : Fd) (n : Nat) : (F.tk n).rd = (F.rd.1.tk n, F.rd.2) := by
  unfold Fd.rd
  show (match lineS (trim F.kept.dropLast) with | .inl (c, m) => _ | .inr (k, t, p) => _) = _
  cases lineS (trim F.kept.dropLast) with
  | inl x =>
    obtain ⟨c, m⟩ := x
    show (if m < 0 then _ else if (F.limit : Int) < m then _ else _) = _
    by_cases h1 : m < 0
    . simp [h1]; rfl
    . by_cases h2 : (F.limit : Int) < m
      . simp [h1, h2]; rfl
      . simp [h1, h2]; rfl
  | inr x =>
    obtain ⟨k, t, p⟩ := x
    show (if p < 0 \/ (F.limit : Int) < p then _ else _) = _
    by_cases h1 : p < 0 \/ (F.limit : Int) < p
    . simp [h1]; rfl
    . simp [h1]; rfl
theorem rd_data (F : Fd) : F.rd.1.s.data = [] := by
  unfold Fd.rd
  cases lineS (trim F.kept.dropLast) with
  | inl x =>
    obtain ⟨c, n⟩ := x
    dsimp only
    split
    . rfl
    . split <;> rfl
  | inr x =>
    obtain ⟨k, t, p⟩ := x
    dsimp only
    split <;> rfl
theorem rd_same (F : Fd) : F.rd.1.taken = F.taken /\ F.rd.1.limit = F.limit := ⟨(rd_facts F).1, (rd_facts F).2.1⟩
theorem Er.kp {X : Nat -> Prop} {w w' : World} (h : Er w) (hk : Kp X w w') (h2 : ¬ X 2) (h3 : ¬ X 3) : Er w' := by
  obtain ⟨⟨a, b, e1⟩, c, d, e2⟩ := h
  have l2 := lt_of_cell e1
  have l3 := lt_of_cell e2
  have k2 := hk.block 2 l2 h2
  have k3 := hk.block 3 l3 h3
  exact ⟨⟨a, b, by simpa [World.cell?, k2] using e1⟩, c, d, by simpa [World.cell?, k3] using e2⟩
theorem kept_by {w : World} {fb : Nat} {F : Fd} {kv ck cd cm : Value} {hd lf : Int} (hx : IsFx w fb F kv hd lf ck cd cm) {kg n cp : Nat} (e : kv = .slice (some ⟨kg, 0, none⟩) n cp) : kg < w.heap.size /\ ∀ i x, F.kept[i]? = some x -> w.cell? ⟨kg, 0 + i, none⟩ = some (b8 x) := by
  subst e
  have hn : n = F.kept.length := by
    obtain ⟨ao, c, e, _⟩ := row_shape hx.kept
    injection e
  subst hn
  refine ⟨row_lt hx.kept kg rfl, fun i x hi => ?_⟩
  rw [Nat.zero_add]
  refine row_cell hx.kept _ _ ?_
  rw [List.getElem?_map, hi]; rfl
theorem isf_keep {w w4 : World} {fb g' cap : Nat} {F : Fd} {kv ck cd cm : Value} {hd lf : Int} {p : Bs} (hx : IsFx w fb F kv hd lf ck cd cm) (b4 : Box w4 136 fb (fdA fb (F.put p) (.slice (some ⟨g', 0, none⟩) (F.kept.length + p.length) cap) hd lf ck cd cm)) (r4 : w4.ownsRow 0 5 1 (.slice (some ⟨g', 0, none⟩) (F.kept.length + p.length) cap) (F.kept.length + p.length) (F.kept.map b8 ++ p.map b8)) (k4 : Kp (XF fb kv) w w4) (a4 : kv.ownBlock = some g' \/ w.heap.size <= g') : IsFx w4 fb (F.put p) (.slice (some ⟨g', 0, none⟩) (F.kept.length + p.length) cap) hd lf ck cd cm :=
  isfx_kp hx k4 b4 rfl (by
      show w4.ownsRow 0 5 1 _ (F.kept ++ p).length ((F.kept ++ p).map b8)
      rw [List.length_append, List.map_append]; exact r4) (fun k hk => by simp [Value.ownBlock] at hk; subst hk; exact a4)
theorem line_end {w : World} {fb : Nat} {F : Fd} {kv : Value} (h : IsF w fb F kv) (hok : F.Ok) {v : Value} {l : Bs} (hv : Ck w (XF fb kv) v l) (hl : 0 < l.length) (hl2 : l.length <= 1099511627776) (ht : F.taken <= 2199023255552) (hst : F.st = 0) (hE : Er w) (hX : ¬ XF fb kv 2 /\ ¬ XF fb kv 3) (p t : Bs) (hpt : l.take (2050 - F.kept.length) = p ++ 10 :: t) (hp : (10 : UInt8) ∉ p)
    (h136 : ∀ w4 kv4, IsF w4 fb (F.put (p ++ [10])) kv4 -> Er w4 -> (∃ g n c, kv4 = .slice (some ⟨g, 0, none⟩) n c) -> Calls Tryz.prog 136 #[.pointer (some ⟨fb, 0, none⟩)] w4 fun e w' => RdF (F.put (p ++ [10])) w4 fb kv4 e w') :
    Calls Tryz.prog 89 #[.pointer (some ⟨fb, 0, none⟩), v] w fun e w' => StP F l w fb kv e w' := by
  obtain ⟨g, o, c, rfl, hc1, -, -, hc⟩ := hv.by hl
  obtain ⟨hd, lf, ck, cd, cm, hx, hh, -⟩ := h
  obtain ⟨ql, -⟩ := hok.line hst
  have hsh := hok.short hst
  obtain ⟨ao, cp, ekv, -, -, -, -⟩ := row_shape hx.kept
  have c4 : w.cell? ⟨fb, 4, none⟩ = some (.slice ao F.kept.length cp) := by rw [<- ekv]; exact hx.box.cell 4
  obtain ⟨u, hu⟩ : ∃ u, min l.length (2050 - F.kept.length) = u := ⟨_, rfl⟩
  have hu1 : u <= l.length := by omega
  have hch : l.take u = p ++ 10 :: t := by rw [<- hpt, <- hu, Nat.min_comm, List.take_eq_take_min (i := 2050 - F.kept.length)]
  have hul : (p ++ 10 :: t).length = u := by rw [<- hch, List.length_take]; omega
  have hpu : p.length + 1 <= u := by rw [<- hul]; simp
  have ht2 : l.take (p.length + 1) = p ++ [10] := by
    have e : l.take (p.length + 1) = (l.take u).take (p.length + 1) := by rw [List.take_take, Nat.min_eq_left hpu]
    rw [e, hch, List.take_append, List.take_of_length_le (by omega)]
    simp
  have hix : Lib.indexByte (l.take u) 10 = (p.length : Int) := by
    rw [hch]
    rcases indexByte_spec 10 (p ++ 10 :: t) with ⟨_, h4⟩ | ⟨p', t', h3, h4, h5⟩
    . exact absurd (by simp) h4
    . rw [h5]
      have : p = p' := by
        rcases List.append_eq_append_iff.1 h3 with ⟨a, h6, h7⟩ | ⟨a, h6, h7⟩
        . cases a with
          | nil => simpa using h6.symm
          | cons x a => simp at h7; rw [h6] at h4; exact absurd (by simp [<- h7.1]) h4
        . cases a with
          | nil => simpa using h6
          | cons x a => simp at h7; rw [h6] at hp; exact absurd (by simp [<- h7.1]) hp
      rw [this]
  have htk := hv.take u hu1
  obtain ⟨g2, o2, c2, e2, -, -, -, hcu⟩ := htk.by (by rw [List.length_take]; omega)
  have hul2 : (l.take u).length = u := by rw [hch]; exact hul
  rw [hul2] at e2
  have h118 := ix_118 w g o c (l.take u) (fun i x hi => by
    rw [List.getElem?_take] at hi
    split at hi
    . exact hc i x hi
    . cases hi)
  rw [hix, hul2] at h118
  clear e2 hcu htk
  have hkl : F.kept.length <= 4398046511104 := by omega
  have h135 := keep_135 hx.box hx.kept (hv.take (p.length + 1) (by omega)) (by rw [ht2]; simp) (by rw [ht2]; simp; omega) hkl
  rw [ht2] at h135
  have e0 : (p ++ [(10 : UInt8)]).length = p.length + 1 := by simp
  have hend : ∀ w4 g' cap w5 e, Box w4 136 fb (fdA fb (F.put (p ++ [10])) (.slice (some ⟨g', 0, none⟩) (F.kept.length + (p ++ [10]).length) cap) hd lf ck cd cm) -> w4.ownsRow 0 5 1 (.slice (some ⟨g', 0, none⟩) (F.kept.length + (p ++ [10]).length) cap) (F.kept.length + (p ++ [10]).length) (F.kept.map b8 ++ (p ++ [10]).map b8) -> Kp (XF fb kv) w w4 -> (kv.ownBlock = some g' \/ w.heap.size <= g') -> RdF (F.put (p ++ [10])) w4 fb (.slice (some ⟨g', 0, none⟩) (F.kept.length + (p ++ [10]).length) cap) e w5 -> e = .returned (.bool (F.put (p ++ [10])).rd.2) /\ StP F l w fb kv (.returned (.tuple #[.int .i64 ((p.length : Int) + 1), .bool (F.put (p ++ [10])).rd.2])) w5 := by
    rintro w4 g' cap w5 e b4 r4 k4 a4 ⟨kv5, rfl, i5, k5, n5, n6⟩
    refine ⟨rfl, p.length + 1, (F.put (p ++ [10])).rd.2, (F.put (p ++ [10])).rd.1, kv5, by simp, by omega, i5, ?_, fun k hk => ?_, fun e => by omega, (rd_same _).1, (rd_same _).2, fun hw => ?_, fun _ => nd_cell i5 (rd_data _), (Kn.same hx.box b4).trans n6 k4.size, ?_⟩
    . refine k4.trans k5 (fun i hi => hi) (fun i hi => ?_)
      rcases hi with rfl | hi
      . exact .inl (.inl rfl)
      . simp [Value.ownBlock] at hi
        subst hi
        rcases a4 with a4 | a4
        . exact .inl (.inr a4)
        . exact .inr a4
    . have := n5 k hk
      simp [Value.ownBlock] at this
      subst this
      exact a4
    . have h3 := ok_rd (F := (F.tk (p.length + 1)).put (p ++ [10])) hst (by simp [Fd.put, Fd.tk]; omega) hok.left hok.limit (by have := hok.taken; simp [Fd.put, Fd.tk]; omega)
      have e3 : (F.tk (p.length + 1)).put (p ++ [10]) = (F.put (p ++ [10])).tk (p.length + 1) := rfl
      rw [e3, rd_tk] at h3
      exact h3 hw
    . refine run_cut ?_
      rw [ht2, run_line_end hst hsh p hp (by omega)]
      have e3 : (F.tk (p.length + 1)).put (p ++ [10]) = (F.put (p ++ [10])).tk (p.length + 1) := rfl
      rw [e3, rd_tk]
      rfl
  have hmid : ∀ w4 g' cap, Box w4 136 fb (fdA fb (F.put (p ++ [10])) (.slice (some ⟨g', 0, none⟩) (F.kept.length + (p ++ [10]).length) cap) hd lf ck cd cm) -> w4.ownsRow 0 5 1 (.slice (some ⟨g', 0, none⟩) (F.kept.length + (p ++ [10]).length) cap) (F.kept.length + (p ++ [10]).length) (F.kept.map b8 ++ (p ++ [10]).map b8) -> Kp (XF fb kv) w w4 -> (kv.ownBlock = some g' \/ w.heap.size <= g') -> Calls Tryz.prog 136 #[.pointer (some ⟨fb, 0, none⟩)] w4 fun e w' => RdF (F.put (p ++ [10])) w4 fb (.slice (some ⟨g', 0, none⟩) (F.kept.length + (p ++ [10]).length) cap) e w' := by
    intro w4 g' cap b4 r4 k4 a4
    have h0 : (F.put (p ++ [10])).st = 0 := hst
    exact h136 w4 _ ⟨hd, lf, ck, cd, cm, isf_keep hx b4 r4 k4 a4, fun e => by omega, fun e => by omega⟩ (hE.kp k4 hX.1 hX.2) ⟨_, _, _, rfl⟩
  rw [e0] at h135 hend hmid
  have d1 : min (l.length : Int) (2050 - (F.kept.length : Int)) = (u : Int) := by omega
  have d2 : (u : Int) <= (c : Int) := by omega
  have d3 : (0 : Int) <= (p.length : Int) := by omega
  have d4 : (p.length : Int) + 1 <= (c : Int) := by omega
  have d5 : (p.length : Int) <= 2050 := by omega
  have d6 : ((p.length : Int) + 1).toNat = p.length + 1 := by omega
  clear hx hh hok hv hl hl2 hc hch hul hpt hp ht2 hix hul2 h136 hkl hE hX hsh e0 hu ekv
  go_enter Tryz.func89, Tryz.ntmps89
  go_wp2_with (first | (go_at_call 118; go_must ((with_reducible refine h118.mono ?_); rintro e w4 ⟨rfl, rfl⟩)) | (go_at_call 135; go_must ((with_reducible refine h135.mono ?_); rintro e w4 ⟨rfl, g', cap, b4, r4, k4, a4⟩)) | (go_at_call 136; go_must ((with_reducible refine (hmid _ _ _ b4 r4 k4 a4).mono ?_); intro e w5 hrd; (obtain ⟨he5, hst5⟩ := hend _ _ _ _ _ b4 r4 k4 a4 hrd); (rw [he5]))))
  go_ret2
  exact hst5
end Go.Proofs.YtobegepebochkaaGreatDoor
namespace Go.Proofs.YtobegepebochkaaGreatDoor
open Go.RowKit Go.Maps
structure Tld where
  s : Stp
  ck : Value
  cd : Value
  cm : Value
abbrev tldL (x : Tld) : List Value := stpL x.s x.ck x.cd x.cm
structure Ss (w : World) (B : Nat) (X : Nat -> Prop) (v : Value) (q : List Tld) : Prop where
  row : w.ownsRow B 86 16 v q.length (q.flatMap tldL)
  all : ∀ x ∈ q, StR w X x.s x.ck x.cd x.cm
theorem Ss.kp {F X Y : Nat -> Prop} {w w' : World} {B : Nat} {v : Value} {q : List Tld} (h : Ss w B X v q) (hk : Kp F w w') (hv : ∀ k, v.ownBlock = some k -> ¬ F k) (hF : ∀ k, k < w.heap.size -> F k -> X k) (hY : ∀ k, k < w.heap.size -> Y k -> X k) : Ss w' B Y v q :=
  ⟨row_kp h.row hk hv, fun x hx => (h.all x hx).kp hk hF hY⟩
theorem Ss.nil (w : World) (B : Nat) (X : Nat -> Prop) : Ss w B X (.slice none 0 0) [] := ⟨World.ownsRow_nil _ _ _ _, fun x hx => by cases hx⟩
theorem row_xf {w : World} {fb B e s n : Nat} {F : Fd} {kv ck cd cm v : Value} {hd lf : Int} {xs : List Value} (h : w.ownsRow B e s v n xs) (he : e ≠ 136 /\ e ≠ 5) (hx : IsFx w fb F kv hd lf ck cd cm) : ∀ k, v.ownBlock = some k -> ¬ XF fb kv k := by
  rintro k hk (rfl | hb)
  . exact row_box h hx.box he.1 k hk rfl
  . obtain ⟨c1, h1⟩ := row_block h k hk
    obtain ⟨c2, h2⟩ := row_block hx.kept k hb
    rw [h1] at h2
    injection h2 with h2
    injection h2 with _ h2
    exact he.2 h2
def FdP (F : Fd) (l : Bs) (w : World) (fb : Nat) (kv : Value) (e : Ending) (w' : World) : Prop :=
  ∃ rv kv' q, e = .returned rv /\ IsF w' fb (F.run l).1 kv' /\ Ss w' w.heap.size (XF fb kv') rv q /\ q.map Tld.s = (F.run l).2 /\ Kp (XF fb kv) w w' /\ (∀ k, kv'.ownBlock = some k -> kv.ownBlock = some k \/ w.heap.size <= k) /\ (∀ x ∈ q, ∀ k, x.cd.ownBlock = some k -> w.heap.size <= k) /\ (q = [] -> rv = .slice none 0 0)
structure FdI (F : Fd) (l : Bs) (w : World) (fb : Nat) (kv : Value) (gk : Nat) (v rv : Value) (wr : World) (l1 : Bs) (F1 : Fd) (kv1 : Value) (q : List Tld) : Prop where
  le : 2 * l1.length + (if F1.st = 4 then 0 else 1) <= gk
  ck : Ck wr (XF fb kv1) v l1
  ll : l1.length <= l.length
  isf : IsF wr fb F1 kv1
  ok : F1.Ok
  tk : F1.taken + l1.length = F.taken + l.length
  ss : Ss wr w.heap.size (XF fb kv1) rv q
  ql : q.length + gk <= 2 * l.length + 1
  old : ∀ g o n c, v = .slice (some ⟨g, o, none⟩) n c -> g < w.heap.size
  run : F.run l = ((F1.run l1).1, q.map Tld.s ++ (F1.run l1).2)
  kp : Kp (XF fb kv) w wr
  own : ∀ k, kv1.ownBlock = some k -> kv.ownBlock = some k \/ w.heap.size <= k
  dnew : ∀ x ∈ q, ∀ k, x.cd.ownBlock = some k -> w.heap.size <= k
  rn : q = [] -> rv = .slice none 0 0
theorem FdI.er {F : Fd} {l : Bs} {w : World} {fb : Nat} {kv : Value} {gk : Nat} {v rv : Value} {wr : World} {l1 : Bs} {F1 : Fd} {kv1 : Value} {q : List Tld} (h : FdI F l w fb kv gk v rv wr l1 F1 kv1 q) (hE : Er w) (hX : ¬ XF fb kv 2 /\ ¬ XF fb kv 3) : Er wr /\ ¬ XF fb kv1 2 /\ ¬ XF fb kv1 3 := by
  have h2 : 2 < w.heap.size /\ 3 < w.heap.size := by
    obtain ⟨⟨a, b, e1⟩, c, d, e2⟩ := hE
    exact ⟨lt_of_cell e1, lt_of_cell e2⟩
  refine ⟨hE.kp h.kp hX.1 hX.2, ?_, ?_⟩
  . rintro (e | e)
    . exact hX.1 (.inl e)
    . rcases h.own _ e with e | e
      . exact hX.1 (.inr e)
      . omega
  . rintro (e | e)
    . exact hX.2 (.inl e)
    . rcases h.own _ e with e | e
      . exact hX.2 (.inr e)
      . omega
theorem FdI.start {F : Fd} {l : Bs} {w : World} {fb : Nat} {kv v : Value} (h : IsF w fb F kv) (hok : F.Ok) (hv : Ck w (XF fb kv) v l) : FdI F l w fb kv (2 * l.length + 1) v (.slice none 0 0) w l F kv [] := by
  have hold : ∀ g o n c, v = .slice (some ⟨g, o, none⟩) n c -> g < w.heap.size := by
    intro g o n c e
    rcases hv with ⟨-, e2⟩ | ⟨g2, o2, c2, e2, -, -, h3, -⟩
    . rw [e2] at e; cases e
    . rw [e2] at e; injection e with e; injection e with e; injection e with e; omega
  exact ⟨by split <;> omega, hv, Nat.le_refl _, h, hok, rfl, Ss.nil _ _ _, by simp, hold, by simp, Kp.refl _ _, fun k hk => .inl hk, (fun x hx => by cases hx), fun _ => rfl⟩
theorem FdI.done {F : Fd} {l : Bs} {w : World} {fb : Nat} {kv : Value} {gk : Nat} {v rv : Value} {wr : World} {l1 : Bs} {F1 : Fd} {kv1 : Value} {q : List Tld} (h : FdI F l w fb kv gk v rv wr l1 F1 kv1 q) (hl : l1 = []) : FdP F l w fb kv (.returned rv) wr := by
  subst hl
  have hr := h.run
  rw [run_nil] at hr
  refine ⟨rv, kv1, q, rfl, ?_, h.ss, ?_, h.kp, h.own, h.dnew, h.rn⟩
  . rw [hr]; exact h.isf
  . rw [hr]; simp
theorem FdI.no {F : Fd} {l : Bs} {w : World} {fb : Nat} {kv : Value} {gk : Nat} {rv : Value} {wr w4 : World} {l1 : Bs} {F1 F2 : Fd} {kv1 kv2 : Value} {q : List Tld} {v v' : Value} {u : Nat} (h : FdI F l w fb kv gk v rv wr l1 F1 kv1 q) (cv : Ck wr (XF fb kv1) v' (l1.drop u)) (ov : ∀ g o n c, v' = .slice (some ⟨g, o, none⟩) n c -> g < w.heap.size)
    (hu : u <= l1.length) (i4 : IsF w4 fb F2 kv2) (k4 : Kp (XF fb kv1) wr w4) (o4 : ∀ k, kv2.ownBlock = some k -> kv1.ownBlock = some k \/ wr.heap.size <= k) (z4 : u = 0 -> F2.st = 4 /\ F1.st ≠ 4) (t4 : F2.taken = F1.taken) (ok4 : (F2.tk u).Ok) (r4 : F1.run l1 = (((F2.tk u).run (l1.drop u)).1, [] ++ ((F2.tk u).run (l1.drop u)).2)) {w5 : World} (w45 : w4.grownBy w5 (some fb)) (i5 : IsF w5 fb (F2.tk u) kv2) :
    ∃ gk', gk' < gk /\ FdI F l w fb kv gk' v' rv w5 (l1.drop u) (F2.tk u) kv2 q := by
  obtain ⟨hd, lf, ck, cd, cm, hx, -, -⟩ := h.isf
  have k5 : Kp (XF fb kv1) wr w5 := k4.step w45 (fun i hi => by injection hi with hi; exact .inl (.inl hi.symm))
  have hY : ∀ k, k < wr.heap.size -> XF fb kv2 k -> XF fb kv1 k := by
    rintro k hk (e | e)
    . exact .inl e
    . rcases o4 k e with e | e
      . exact .inr e
      . omega
  have hlt : 2 * (l1.drop u).length + (if (F2.tk u).st = 4 then 0 else 1) < gk := by
    have := h.le
    rw [List.length_drop]
    rcases Nat.eq_zero_or_pos u with e | e
    . obtain ⟨e1, e2⟩ := z4 e
      have e3 : (F2.tk u).st = 4 := e1
      rw [if_neg e2] at this
      rw [if_pos e3]
      omega
    . split at this <;> split <;> omega
  refine ⟨2 * (l1.drop u).length + (if (F2.tk u).st = 4 then 0 else 1), hlt, ⟨Nat.le_refl _, ?_, ?_, i5, ok4, ?_, ?_, ?_, ?_, ?_, ?_, ?_, h.dnew, h.rn⟩⟩
  . exact cv.kp k5 (fun k _ hf => hf) hY
  . rw [List.length_drop]; have := h.ll; omega
  . show F2.taken + u + (l1.drop u).length = _
    rw [List.length_drop, t4, <- h.tk]; omega
  . exact h.ss.kp k5 (row_xf h.ss.row (by omega) hx) (fun k _ hf => hf) hY
  . have := h.ql; omega
  . exact ov
  . rw [h.run, r4]; simp
  . refine h.kp.trans k5 (fun i hi => hi) (fun i hi => ?_)
    rcases hi with e | e
    . exact .inl (.inl e)
    . rcases h.own i e with e | e
      . exact .inl (.inr e)
      . exact .inr e
  . intro k hk
    rcases o4 k hk with e | e
    . exact h.own k e
    . exact .inr (Nat.le_trans h.kp.size e)
theorem StR.wide {w : World} {X : Nat -> Prop} {s : Stp} {ck cd cm v : Value} {B n : Nat} {xs : List Value} (h : StR w X s ck cd cm) (hr : w.ownsRow B 86 16 v n xs) : StR w (fun k => X k \/ v.ownBlock = some k) s ck cd cm := by
  have key : ∀ {e m ys} {u : Value} {B2 z : Nat}, w.ownsRow B2 e z u m ys -> e ≠ 86 -> ∀ k, u.ownBlock = some k -> ¬ (v.ownBlock = some k) := by
    intro e m ys u B2 z hu he k hk hv
    obtain ⟨c1, h1⟩ := row_block hu k hk
    obtain ⟨c2, h2⟩ := row_block hr k hv
    rw [h1] at h2
    injection h2 with h2
    injection h2 with _ h2
    exact he h2
  refine ⟨h.keys, h.data, h.mt, fun k hk => ?_, fun k hk => ?_, fun k hk => ?_, h.nd⟩
  . rintro (e | e)
    . exact h.ak k hk e
    . exact key h.keys (by decide) k hk e
  . rintro (e | e)
    . exact h.ad k hk e
    . exact key h.data (by decide) k hk e
  . rintro (e | e)
    . exact h.am k hk e
    . exact key h.mt (by decide) k hk e
theorem FdI.yesq {F : Fd} {l : Bs} {w : World} {fb : Nat} {kv : Value} {gk : Nat} {rv : Value} {wr w4 : World} {l1 : Bs} {F1 F2 : Fd} {kv1 kv2 : Value} {q : List Tld} {v v' : Value} {u : Nat} (h : FdI F l w fb kv gk v rv wr l1 F1 kv1 q) (cv : Ck wr (XF fb kv1) v' (l1.drop u)) (ov : ∀ g o n c, v' = .slice (some ⟨g, o, none⟩) n c -> g < w.heap.size)
    (hu : u <= l1.length) (k4 : Kp (XF fb kv1) wr w4) (o4 : ∀ k, kv2.ownBlock = some k -> kv1.ownBlock = some k \/ wr.heap.size <= k) (t4 : F2.taken = F1.taken) (lm : F2.limit <= 9223372036854775807) (r4 : F1.run l1 = (((F2.tk u).tell.1.run (l1.drop u)).1, (F2.tk u).tell.2 ++ ((F2.tk u).tell.1.run (l1.drop u)).2))
    {w5 w6 w7 : World} {hd lf hd6 lf6 : Int} {ck cd cm : Value} (w45 : w4.grownBy w5 (some fb)) (i5 : IsFx w5 fb (F2.tk u) kv2 hd lf ck cd cm) (w56 : w5.grownBy w6 (some fb)) (b6 : Box w6 136 fb (fdA fb (F2.tk u).tell.1 (.slice none 0 0) hd6 lf6 (.slice none 0 0) (.slice none 0 0) (.slice none 0 0)))
    {g7 cap : Nat} (r7 : w7.ownsRow w.heap.size 86 16 (.slice (some ⟨g7, 0, none⟩) (q.length + 1) cap) (q.length + 1) (q.flatMap tldL ++ stpL { (F2.tk u).s with frm := (F2.tk u).frm, to := (F2.tk u).taken } ck cd cm)) (w67 : w6.grownBy w7 rv.ownBlock) (hcd : ∀ k, cd.ownBlock = some k -> wr.heap.size <= k) :
    ∃ gk', gk' < gk /\ FdI F l w fb kv gk' v' (.slice (some ⟨g7, 0, none⟩) (q.length + 1) cap) w7 (l1.drop u) (F2.tk u).tell.1 (.slice none 0 0) (q ++ [⟨{ (F2.tk u).s with frm := (F2.tk u).frm, to := (F2.tk u).taken }, ck, cd, cm⟩]) := by
  obtain ⟨hd0, lf0, ck0, cd0, cm0, hx, -, -⟩ := h.isf
  have hu0 : 0 < u := by
    have h3 := (run_facts l1 F1).2.2 { (F2.tk u).s with frm := (F2.tk u).frm, to := (F2.tk u).taken } (by rw [r4]; exact List.mem_append_left _ (by simp [Fd.tell]))
    have h4 : F1.taken < F2.taken + u := h3.1
    omega
  have hst : (F2.tk u).tell.1.st ≠ 4 := by
    simp only [Fd.tell]
    split <;> omega
  have hlt : 2 * (l1.drop u).length + 1 < gk := by
    have := h.le
    rw [List.length_drop]
    split at this <;> omega
  have k5 : Kp (XF fb kv1) wr w5 := k4.step w45 (fun i hi => by injection hi with hi; exact .inl (.inl hi.symm))
  have k6 : Kp (XF fb kv1) wr w6 := k5.step w56 (fun i hi => by injection hi with hi; exact .inl (.inl hi.symm))
  have hrv := row_xf h.ss.row (by omega) hx
  have row6 := row_kp h.ss.row k6 hrv
  have k67 : Kp (fun k => XF fb kv1 k \/ rv.ownBlock = some k) w6 w7 := (Kp.refl _ w6).step w67 (fun i hi => .inl (.inr hi))
  have k57 : Kp (fun k => XF fb kv2 k \/ rv.ownBlock = some k) w5 w7 := ((Kp.refl _ w5).step w56 (fun i hi => by injection hi with hi; exact .inl (.inl (.inl hi.symm)))).step w67 (fun i hi => .inl (.inr hi))
  have k7 : Kp (fun k => XF fb kv1 k \/ rv.ownBlock = some k) wr w7 := k6.trans k67 (fun i hi => .inl hi) (fun i hi => .inl hi)
  have row5 := row_kp h.ss.row k5 hrv
  refine ⟨2 * (l1.drop u).length + 1, hlt, ⟨?_, ?_, ?_, ?_, ok_tell lm, ?_, ⟨?_, ?_⟩, ?_, ?_, ?_, ?_, ?_, ?_, fun e => by simp at e⟩⟩
  . rw [if_neg hst]; exact Nat.le_refl _
  . have hck : Ck wr (fun k => XF fb kv1 k \/ rv.ownBlock = some k) v' (l1.drop u) := by
      rcases cv with h | ⟨g2, o2, c2, e, h1, h2, h3, h4, h5⟩
      . exact .inl h
      . refine .inr ⟨g2, o2, c2, e, h1, h2, h3, ?_, h5⟩
        have := ov _ _ _ _ e
        rintro (e | e)
        . exact h4 e
        . have := (World.ownsRow.lt h.ss.row _ e).1
          omega
    refine hck.kp k7 (fun k _ hf => hf) ?_
    rintro k hk (e | e)
    . exact .inl (.inl e)
    . simp [Value.ownBlock] at e
  . rw [List.length_drop]; have := h.ll; omega
  . refine ⟨hd6, lf6, _, _, _, isf_nil (b6.kept w67 (fun e => row_box row6 b6 (by omega) fb e.symm rfl)) rfl rfl rfl rfl, fun e => ?_, fun e => ?_⟩
    . simp only [Fd.tell] at e
      split at e <;> omega
    . simp only [Fd.tell] at e
      split at e <;> omega
  . show F2.taken + u + (l1.drop u).length = _
    rw [List.length_drop, t4, <- h.tk]; omega
  . rw [List.length_append, List.flatMap_append]
    simpa using r7
  . intro x hx2
    rcases List.mem_append.1 hx2 with hx2 | hx2
    . refine ((h.ss.all x hx2).wide h.ss.row).kp k7 (fun k _ hf => hf) ?_
      rintro k hk (e | e)
      . exact .inl (.inl e)
      . simp [Value.ownBlock] at e
    . simp at hx2
      subst hx2
      have h8 : StR w5 (fun k => XF fb kv2 k \/ rv.ownBlock = some k) { (F2.tk u).s with frm := (F2.tk u).frm, to := (F2.tk u).taken } ck cd cm := StR.wide ⟨i5.str.keys, i5.str.data, i5.str.mt, i5.str.ak, i5.str.ad, i5.str.am, i5.str.nd⟩ row5
      refine h8.kp k57 (fun k _ hf => hf) ?_
      rintro k hk (e | e)
      . exact .inl (.inl e)
      . simp [Value.ownBlock] at e
  . have := h.ql
    rw [List.length_append]
    simp
    rw [List.length_drop] at hlt
    omega
  . exact ov
  . rw [h.run, r4]
    simp [Fd.tell]
  . refine h.kp.trans k7 (fun i hi => hi) (fun i hi => ?_)
    rcases hi with (e | e) | e
    . exact .inl (.inl e)
    . rcases h.own i e with e | e
      . exact .inl (.inr e)
      . exact .inr e
    . exact .inr (World.ownsRow.lt h.ss.row _ e).1
  . intro k hk
    simp [Value.ownBlock] at hk
  . intro x hx2 k hk
    rcases List.mem_append.1 hx2 with hx2 | hx2
    . exact h.dnew x hx2 k hk
    . simp at hx2
      subst hx2
      exact Nat.le_trans h.kp.size (hcd k hk)
end Go.Proofs.YtobegepebochkaaGreatDoor
