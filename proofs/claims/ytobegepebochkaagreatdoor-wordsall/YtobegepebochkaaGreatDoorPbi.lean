import Derived.Test.YtobegepebochkaaGreatDoorPap
import Derived.Test.YtobegepebochkaaGreatDoorPbh
import Derived.Test.YtobegepebochkaaGreatDoorPbb
set_option linter.unusedVariables false
set_option linter.unusedSimpArgs false
namespace Go.Proofs.YtobegepebochkaaGreatDoor
open Go.RowKit Go.Maps
theorem lnF_kept (limit at_ : Nat) (p : Bs) : (lnF limit at_ p).kept.dropLast = p := by
  show ([] ++ (p ++ [10])).dropLast = p
  rw [List.nil_append, List.dropLast_concat]
theorem lnF_inl {limit at_ : Nat} {p : Bs} {c : Cmd} {n : Int} (hl : lineS (trim p) = .inl (c, n)) : (lnF limit at_ p).rd =
    if n < 0 then ({ lnF limit at_ p with head := (lnF limit at_ p).kept.length, s := stpC c false }, true) else
    if (limit : Int) < n then ((lnF limit at_ p).pass (stpC c true) n.toNat, false) else
    ({ lnF limit at_ p with head := (lnF limit at_ p).kept.length, s := stpC c false }.await n.toNat, false) := by
  unfold Fd.rd
  rw [lnF_kept, hl]
  rfl
theorem lnF_inr {limit at_ : Nat} {p : Bs} {k : Int} {x : Bs} {q : Int} (hl : lineS (trim p) = .inr (k, x, q)) : (lnF limit at_ p).rd =
    if q < 0 ∨ (limit : Int) < q then ({ lnF limit at_ p with head := (lnF limit at_ p).kept.length, s := stpW k x q }, true) else
    ((lnF limit at_ p).pass (stpW k x q) q.toNat, false) := by
  unfold Fd.rd
  rw [lnF_kept, hl]
  rfl
theorem stepY_inl {limit at_ : Nat} {p t : Bs} (hp : (10 : UInt8) ∉ p) {c : Cmd} {n : Int} (hl : lineS (trim p) = .inl (c, n)) (hn : n < 0) : StepY limit at_ (p ++ 10 :: t) ⟨c, [], false, 0, [], 0, at_, at_ + (p.length + 1)⟩ (p.length + 1) := by
  have h := lnF_inl (limit := limit) (at_ := at_) hl
  rw [if_pos hn] at h
  have := step_line (limit := limit) (at_ := at_) p t hp (by rw [h])
  rw [h] at this
  exact this
theorem stepY_inr {limit at_ : Nat} {p t : Bs} (hp : (10 : UInt8) ∉ p) {k : Int} {x : Bs} {q : Int} (hl : lineS (trim p) = .inr (k, x, q)) (hq : q < 0 ∨ (limit : Int) < q) : StepY limit at_ (p ++ 10 :: t) ⟨cmd0 0 false, [], false, k, x, q, at_, at_ + (p.length + 1)⟩ (p.length + 1) := by
  have h := lnF_inr (limit := limit) (at_ := at_) hl
  rw [if_pos hq] at h
  have := step_line (limit := limit) (at_ := at_) p t hp (by rw [h])
  rw [h] at this
  exact this
theorem three (t : Bs) (n : Nat) : t.length < n ∨ (∃ b u, t = b ++ u ∧ b.length = n ∧ (10 : UInt8) ∉ u) ∨ ∃ b u v, t = b ++ (u ++ 10 :: v) ∧ b.length = n ∧ (10 : UInt8) ∉ u := by
  rcases Nat.lt_or_ge t.length n with h | h
  · exact .inl h
  · right
    have hb : (t.take n).length = n := by rw [List.length_take]; omega
    rcases indexByte_spec 10 (t.drop n) with ⟨_, h1⟩ | ⟨p, v, h1, h2, _⟩
    · exact .inl ⟨t.take n, t.drop n, (List.take_append_drop n t).symm, hb, h1⟩
    · exact .inr ⟨t.take n, p, v, by rw [← h1, List.take_append_drop], hb, h2⟩
def StQ (limit at_ : Nat) (r : Bs) (w : World) (e : Ending) (w' : World) : Prop :=
  w.grownBy w' none ∧ ((e = .returned (.tuple #[.agg Z86, .bool false]) ∧ StepN limit at_ r) ∨
    ∃ s n ck cd cm, e = .returned (.tuple #[.agg (stpA s ck cd cm), .bool true]) ∧ StepY limit at_ r s n ∧ w'.ownsRow w.heap.size 9 1 ck s.cmd.keys.length (s.cmd.keys.map sv) ∧ w'.ownsRow w.heap.size 5 1 cd s.data.length (s.data.map b8) ∧ w'.ownsRow w.heap.size 79 3 cm s.cmd.mt.length (fcs s.cmd.mt) ∧ (s.data = [] → cd = .slice none 0 0))
theorem StQ.no {limit at_ : Nat} {r : Bs} {w w' : World} (h : StepN limit at_ r) (hg : w.grownBy w' none) : StQ limit at_ r w (.returned (.tuple #[.agg Z86, .bool false])) w' := ⟨hg, .inl ⟨rfl, h⟩⟩
theorem bx41 (w : World) (z : Array Value) (y : Array Value) (t : TypeId) : Box ((w.alloc (.cells z 41)).alloc (.cells y t)) 41 w.heap.size z := (Box.new w 41 z).kept (gb_alloc (gb_refl _ none) _) (by simp)
theorem bx2 (w : World) (z : Obj) (y : Array Value) (t : TypeId) : Box ((w.alloc z).alloc (.cells y t)) t (w.heap.size + 1) y := by
  have := Box.new (w.alloc z) t y
  simp only [World.size_alloc] at this
  exact this
set_option maxRecDepth 100000 in
set_option maxHeartbeats 4000000 in
theorem step_noLF {w : World} {gb g o c : Nat} {raw : Bs} (hR : Ra w g o c raw) {at_ lim : Nat} (hat : at_ ≤ raw.length) (hr : (10 : UInt8) ∉ raw.drop at_) :
    Calls Tryz.prog 76 #[.map (some gb), .slice (some ⟨g, o, none⟩) raw.length c, .int .i64 at_, .int .i64 lim] w fun e w' => StQ lim at_ (raw.drop at_) w e w' := by
  have hfin := fun {W : World} (hg : w.grownBy W none) => StQ.no (limit := lim) (at_ := at_) (w := w) (step_none hr) hg
  have hl := hR.len
  have hle := hR.le
  have hcp := hR.cap
  obtain ⟨r, hr2⟩ : ∃ r, raw.drop at_ = r := ⟨_, rfl⟩
  have ga := gb_alloc (gb_refl w none) (.cells Z86 86)
  have bx := Box.new w 86 Z86
  have hix : Lib.indexByte r 10 = -1 := by
    rcases indexByte_spec 10 r with ⟨h1, _⟩ | ⟨p, t, h1, _, _⟩
    · exact h1
    · exact absurd (by rw [hr2, h1]; simp) hr
  have h118 := ix_118 (w.alloc (.cells Z86 86)) g (o + at_) (c - at_) r (by rw [← hr2]; exact (hR.kept0 ga).dropc at_)
  rw [hix] at h118
  have h118b := ix_118 (w.alloc (.cells Z86 86)) g o 0 [] (fun i x hx => by simp at hx)
  rw [show Lib.indexByte [] 10 = -1 from rfl, List.length_nil] at h118b
  have e1 : raw.length - at_ = r.length := by rw [← hr2, List.length_drop]
  obtain ⟨m, hm⟩ : ∃ m, r.length = m := ⟨_, rfl⟩
  rw [hm] at e1 h118
  clear hR hr hix hr2 hm
  by_cases hcn : c = at_
  · have hm0 : m = 0 := by omega
    subst hm0
    have hlk : raw.length = at_ := by omega
    go_enter Tryz.func76, Tryz.ntmps76
    go_wp2_with (first | (go_at_call 118; go_must ((with_reducible refine h118b.mono ?_); rintro e w4 ⟨rfl, rfl⟩)) | (refine atS 86 w.heap.size 0 rfl rfl ?_; go_must (refine storeT 86 16 size86 rfl _ _ rfl 86 w.heap.size 0 _ bx (by simp) rfl _ rfl rfl (by simp [Value.oneCell']) ?_); intro W4 hb4 hg4; (simp only [sets_0] at hb4)))
    refine ⟨rfl, _, res76 hb4 _ rfl rfl, ?_⟩
    exact hfin (gb_mine ga hg4 (Nat.le_refl _))
  · go_enter Tryz.func76, Tryz.ntmps76
    go_wp2_with (first | (go_at_call 118; go_must ((with_reducible refine h118.mono ?_); rintro e w4 ⟨rfl, rfl⟩)) | (refine atS 86 w.heap.size 0 rfl rfl ?_; go_must (refine storeT 86 16 size86 rfl _ _ rfl 86 w.heap.size 0 _ bx (by simp) rfl _ rfl rfl (by simp [Value.oneCell']) ?_); intro W4 hb4 hg4; (simp only [sets_0] at hb4)))
    refine ⟨rfl, _, res76 hb4 _ rfl rfl, ?_⟩
    exact hfin (gb_mine ga hg4 (Nat.le_refl _))
end Go.Proofs.YtobegepebochkaaGreatDoor
namespace Go.Proofs.YtobegepebochkaaGreatDoor
open Go.RowKit Go.Maps
set_option maxRecDepth 100000 in
set_option maxHeartbeats 4000000 in
theorem trim_119 {w : World} {g o c sg sc : Nat} {l : Bs} (hl : l.length ≤ 1099511627776) (hcp : l.length ≤ c) (hg : g < w.heap.size) (hc : ∀ i x, l[i]? = some x → w.cell? ⟨g, o + i, none⟩ = some (b8 x)) (hs : w.cell? ⟨sg, 0, none⟩ = some (.int .u8 13)) :
    Calls Tryz.prog 119 #[.slice (some ⟨g, o, none⟩) l.length c, .slice (some ⟨sg, 0, none⟩) 1 sc] w fun e w' => e = .returned (.slice (some ⟨g, o, none⟩) (trim l).length c) ∧ w' = w := by
  have h148 := suf_148 (sc := sc) hl hcp hg hc hs
  by_cases he : l.getLast? = some 13
  · have e1 : decide (l.getLast? = some 13) = true := decide_eq_true he
    have e2 : (trim l).length = l.length - 1 := by simp [trim, he]
    have h0 : 0 < l.length := by
      cases l with
      | nil => simp at he
      | cons b t => simp
    obtain ⟨k, hk⟩ : ∃ k, l.length = k + 1 := ⟨l.length - 1, by omega⟩
    rw [e1] at h148
    rw [e2]
    rw [hk] at h148 ⊢
    have d1 : wrap64 (((k + 1 : Nat) : Int) - 1) = (k : Int) := by unfold wrap64; omega
    have d2 : ((k : Int) ≤ (c : Int)) := by omega
    clear hc hs e1 e2 he
    go_enter Tryz.func119, Tryz.ntmps119
    go_wp2_with (go_at_call 148; go_must ((with_reducible refine h148.mono ?_); rintro e w4 ⟨rfl, rfl⟩))
    go_ret
    exact ⟨rfl, rfl⟩
  · have e1 : decide (l.getLast? = some 13) = false := decide_eq_false he
    have e2 : trim l = l := by simp [trim, he]
    rw [e1] at h148
    rw [e2]
    clear hc hs e1 e2 he
    go_enter Tryz.func119, Tryz.ntmps119
    go_wp2_with (go_at_call 148; go_must ((with_reducible refine h148.mono ?_); rintro e w4 ⟨rfl, rfl⟩))
    go_ret
    exact ⟨rfl, rfl⟩
end Go.Proofs.YtobegepebochkaaGreatDoor
