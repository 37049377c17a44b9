import Derived.Test.YtbbocbdoiealoaaGreatDoorRMk
import Derived.Test.YtbbocbdoiealoaaGreatDoorRPar
import Derived.Test.YtbbocbdoiealoaaGreatDoorRPbj
import Derived.Test.YtbbocbdoiealoaaGreatDoorRPaw
import Derived.Deep.LoopGhost
import Derived.Deep.CutRange
import Derived.Test.YtbbocbdoiealoaaGreatDoorRD
import Derived.Lib.SlBytesConst
import Derived.Test.YtbbocbdoiealoaaGreatDoorRPaq
set_option linter.unusedVariables false
set_option linter.unusedSimpArgs false
namespace Go.Proofs.YtbbocbdoiealoaaGreatDoor
def mayX (x : CI) : Bool := decide (1 ≤ x.c.verb ∧ x.c.verb ≤ 24) && mayB (x.c.verb - 1).toNat x.c x.d.length x.lg
def bsX (x : CI) : Bs := if mayX x then bsB (x.c.verb - 1).toNat x.c x.d else []
def BR (x : CI) (w : World) (e : Ending) (w' : World) : Prop := w.grownBy w' none ∧ ∃ va vn vc, e = .returned (.tuple #[.slice va vn vc, .int .i64 (if mayX x then 0 else 7)]) ∧ OwC w' w.heap.size (.slice va vn vc) (bsX x)
theorem BR.no {x : CI} (h : mayX x = false) {w w' : World} (g : w.grownBy w' none) : BR x w (.returned (.tuple #[.slice none 0 0, .int .i64 7])) w' :=
  ⟨g, none, 0, 0, by rw [h]; rfl, by unfold bsX; rw [h]; exact .inl ⟨rfl, rfl⟩⟩
theorem BR.yes {x : CI} (h : mayX x = true) {w w' : World} (g : w.grownBy w' none) {va : Option Addr} {vn vc : Nat} (ho : OwC w' w.heap.size (.slice va vn vc) (bsB (x.c.verb - 1).toNat x.c x.d)) : BR x w (.returned (.tuple #[.slice va vn vc, .int .i64 0])) w' :=
  ⟨g, va, vn, vc, by rw [h]; rfl, by unfold bsX; rw [h]; exact ho⟩
theorem wbytes_doc {w : World} (hE : Er w) (hp : Pw w) {x : CI} (h : CiOk w x) (hkn : x.c.keys.length ≤ 10000000) (hmn : x.c.mt.length ≤ 10000000) (hfl : ∀ f ∈ x.c.mt, f.arg.length ≤ 1099511627776) (hL : ∀ i, i < 24 → (lnB i x.c x.d.length).length ≤ 1000000000) :
    Calls Tryz.prog 35 #[.agg (ciL x).toArray] w fun e w' => BR x w e w' := by
  refine (wbytes_any hE hp h hkn hmn hfl hL).mono ?_
  rintro e w' ⟨g, va, vn, vc, en, rfl, ⟨rfl, rfl, rfl, rfl, hno⟩ | ⟨rfl, i, n, hw, ho⟩⟩
  · refine .no ?_ g
    rcases hm : mayX x with _ | _
    · rfl
    · exfalso
      unfold mayX at hm
      rw [Bool.and_eq_true, decide_eq_true_eq] at hm
      obtain ⟨n, hn⟩ := (wok_may (i := (x.c.verb - 1).toNat) h.r h.f (by omega) (by omega)).2 hm.2
      exact hno ⟨_, n, hn⟩
  · have hi := hw.lt
    have hv := hw.v
    have e1 : (x.c.verb - 1).toNat = i := by omega
    refine .yes ?_ g ?_
    · unfold mayX
      rw [decide_eq_true (by omega), Bool.true_and, e1]
      exact (wok_may h.r h.f hi hv).1 ⟨n, hw⟩
    · rw [e1, ← wbs_bsB hw]
      exact ho
end Go.Proofs.YtbbocbdoiealoaaGreatDoor
namespace Go.Proofs.YtbbocbdoiealoaaGreatDoor
open Go.RowKit Go.Maps
theorem lnF_kept (limit at_ : Nat) (p : Bs) : (lnF limit at_ p).kept.dropLast = p := by
  show ([] ++ (p ++ [10])).dropLast = p
  rw [List.nil_append, List.dropLast_concat]
theorem lnF_inl {limit at_ : Nat} {p : Bs} {c : Cmd} {n : Int} (hl : lineS (trim p) = .inl (c, n)) : (lnF limit at_ p).rd =
    if n < 0 then ({ lnF limit at_ p with head := (lnF limit at_ p).kept.length, s := stpC c false }, true) else
    if (limit : Int) < n then ((lnF limit at_ p).pass (stpC c true) n.toNat, false) else
    ({ lnF limit at_ p with head := (lnF limit at_ p).kept.length, s := stpC c false }.await n.toNat, false) := by
  unfold Fd.rd
  rw [lnF_kept, hl]
  rfl
theorem lnF_inr {limit at_ : Nat} {p : Bs} {k : Int} {x : Bs} {q : Int} (hl : lineS (trim p) = .inr (k, x, q)) : (lnF limit at_ p).rd =
    if q < 0 ∨ (limit : Int) < q then ({ lnF limit at_ p with head := (lnF limit at_ p).kept.length, s := stpW k x q }, true) else
    ((lnF limit at_ p).pass (stpW k x q) q.toNat, false) := by
  unfold Fd.rd
  rw [lnF_kept, hl]
  rfl
theorem stepY_inl {limit at_ : Nat} {p t : Bs} (hp : (10 : UInt8) ∉ p) {c : Cmd} {n : Int} (hl : lineS (trim p) = .inl (c, n)) (hn : n < 0) : StepY limit at_ (p ++ 10 :: t) ⟨c, [], false, 0, [], 0, at_, at_ + (p.length + 1)⟩ (p.length + 1) := by
  have h := lnF_inl (limit := limit) (at_ := at_) hl
  rw [if_pos hn] at h
  have := step_line (limit := limit) (at_ := at_) p t hp (by rw [h])
  rw [h] at this
  exact this
theorem stepY_inr {limit at_ : Nat} {p t : Bs} (hp : (10 : UInt8) ∉ p) {k : Int} {x : Bs} {q : Int} (hl : lineS (trim p) = .inr (k, x, q)) (hq : q < 0 ∨ (limit : Int) < q) : StepY limit at_ (p ++ 10 :: t) ⟨cmd0 0 false, [], false, k, x, q, at_, at_ + (p.length + 1)⟩ (p.length + 1) := by
  have h := lnF_inr (limit := limit) (at_ := at_) hl
  rw [if_pos hq] at h
  have := step_line (limit := limit) (at_ := at_) p t hp (by rw [h])
  rw [h] at this
  exact this
theorem three (t : Bs) (n : Nat) : t.length < n ∨ (∃ b u, t = b ++ u ∧ b.length = n ∧ (10 : UInt8) ∉ u) ∨ ∃ b u v, t = b ++ (u ++ 10 :: v) ∧ b.length = n ∧ (10 : UInt8) ∉ u := by
  rcases Nat.lt_or_ge t.length n with h | h
  · exact .inl h
  · right
    have hb : (t.take n).length = n := by rw [List.length_take]; omega
    rcases indexByte_spec 10 (t.drop n) with ⟨_, h1⟩ | ⟨p, v, h1, h2, _⟩
    · exact .inl ⟨t.take n, t.drop n, (List.take_append_drop n t).symm, hb, h1⟩
    · exact .inr ⟨t.take n, p, v, by rw [← h1, List.take_append_drop], hb, h2⟩
def StQ (limit at_ : Nat) (r : Bs) (w : World) (e : Ending) (w' : World) : Prop :=
  w.grownBy w' none ∧ ((e = .returned (.tuple #[.agg Z86, .bool false]) ∧ StepN limit at_ r) ∨
    ∃ s n ck cd cm, e = .returned (.tuple #[.agg (stpA s ck cd cm), .bool true]) ∧ StepY limit at_ r s n ∧ w'.ownsRow w.heap.size 9 1 ck s.cmd.keys.length (s.cmd.keys.map sv) ∧ w'.ownsRow w.heap.size 5 1 cd s.data.length (s.data.map b8) ∧ w'.ownsRow w.heap.size 79 3 cm s.cmd.mt.length (fcs s.cmd.mt) ∧ (s.data = [] → cd = .slice none 0 0))
theorem StQ.no {limit at_ : Nat} {r : Bs} {w w' : World} (h : StepN limit at_ r) (hg : w.grownBy w' none) : StQ limit at_ r w (.returned (.tuple #[.agg Z86, .bool false])) w' := ⟨hg, .inl ⟨rfl, h⟩⟩
theorem bx41 (w : World) (z : Array Value) (y : Array Value) (t : TypeId) : Box ((w.alloc (.cells z 41)).alloc (.cells y t)) 41 w.heap.size z := (Box.new w 41 z).kept (gb_alloc (gb_refl _ none) _) (by simp)
theorem bx2 (w : World) (z : Obj) (y : Array Value) (t : TypeId) : Box ((w.alloc z).alloc (.cells y t)) t (w.heap.size + 1) y := by
  have := Box.new (w.alloc z) t y
  simp only [World.size_alloc] at this
  exact this
set_option maxRecDepth 100000 in
set_option maxHeartbeats 4000000 in
theorem step_noLF {w : World} {gb g o c : Nat} {raw : Bs} (hR : Ra w g o c raw) {at_ lim : Nat} (hat : at_ ≤ raw.length) (hr : (10 : UInt8) ∉ raw.drop at_) :
    Calls Tryz.prog 81 #[.map (some gb), .slice (some ⟨g, o, none⟩) raw.length c, .int .i64 at_, .int .i64 lim] w fun e w' => StQ lim at_ (raw.drop at_) w e w' := by
  have hfin := fun {W : World} (hg : w.grownBy W none) => StQ.no (limit := lim) (at_ := at_) (w := w) (step_none hr) hg
  have hl := hR.len
  have hle := hR.le
  have hcp := hR.cap
  obtain ⟨r, hr2⟩ : ∃ r, raw.drop at_ = r := ⟨_, rfl⟩
  have ga := gb_alloc (gb_refl w none) (.cells Z86 85)
  have bx := Box.new w 85 Z86
  have hix : Lib.indexByte r 10 = -1 := by
    rcases indexByte_spec 10 r with ⟨h1, _⟩ | ⟨p, t, h1, _, _⟩
    · exact h1
    · exact absurd (by rw [hr2, h1]; simp) hr
  have h118 := ix_118 (w.alloc (.cells Z86 85)) g (o + at_) (c - at_) r (by rw [← hr2]; exact (hR.kept0 ga).dropc at_)
  rw [hix] at h118
  have h118b := ix_118 (w.alloc (.cells Z86 85)) g o 0 [] (fun i x hx => by simp at hx)
  rw [show Lib.indexByte [] 10 = -1 from rfl, List.length_nil] at h118b
  have e1 : raw.length - at_ = r.length := by rw [← hr2, List.length_drop]
  obtain ⟨m, hm⟩ : ∃ m, r.length = m := ⟨_, rfl⟩
  rw [hm] at e1 h118
  clear hR hr hix hr2 hm
  by_cases hcn : c = at_
  · have hm0 : m = 0 := by omega
    subst hm0
    have hlk : raw.length = at_ := by omega
    go_enter Tryz.func81, Tryz.ntmps81
    go_wp2_with (first | (go_at_call 123; go_must ((with_reducible refine h118b.mono ?_); rintro e w4 ⟨rfl, rfl⟩)) | (refine atS 85 w.heap.size 0 rfl rfl ?_; go_must (refine storeT 85 16 size86 rfl _ _ rfl 85 w.heap.size 0 _ bx (by simp) rfl _ rfl rfl (by simp [Value.oneCell']) ?_); intro W4 hb4 hg4; (simp only [sets_0] at hb4)))
    refine ⟨rfl, _, res76 hb4 _ rfl rfl, ?_⟩
    exact hfin (gb_mine ga hg4 (Nat.le_refl _))
  · go_enter Tryz.func81, Tryz.ntmps81
    go_wp2_with (first | (go_at_call 123; go_must ((with_reducible refine h118.mono ?_); rintro e w4 ⟨rfl, rfl⟩)) | (refine atS 85 w.heap.size 0 rfl rfl ?_; go_must (refine storeT 85 16 size86 rfl _ _ rfl 85 w.heap.size 0 _ bx (by simp) rfl _ rfl rfl (by simp [Value.oneCell']) ?_); intro W4 hb4 hg4; (simp only [sets_0] at hb4)))
    refine ⟨rfl, _, res76 hb4 _ rfl rfl, ?_⟩
    exact hfin (gb_mine ga hg4 (Nat.le_refl _))
end Go.Proofs.YtbbocbdoiealoaaGreatDoor
namespace Go.Proofs.YtbbocbdoiealoaaGreatDoor
open Go.RowKit Go.Maps
theorem Tryz.info85b : (Tryz.prog.info? 85).map (fun i => (i.zero, i.size, i.bytes)) = some (some (.agg Z86), 16, 184) := by kernel_rfl
section
variable {w : World} {ops : Array Oper} {rest : List Oper} {o : Oper} {a : Act} {Q : Exit → Act → World → Prop}
theorem push86 (hgd : o.guard = none) (s x : Operand) (ho : o.op = .call { callee := .builtin .append, args := #[s, x], argTypes := #[57, 57] })
    (B : Nat) (v : Value) (n : Nat) (xs : List Value) (hs : a.eval s = v) (hown : w.ownsRow B 85 16 v n xs) (us : List Value) (hul : us.length = 16) (hu : ∀ u ∈ us, u.oneCell' = true) (hx : a.eval x = .slice (some ⟨w.heap.size, 0, none⟩) 1 1) (hn : n ≤ 100000000000) (hB : B ≤ w.heap.size)
    (h : ∀ g cap w', w'.ownsRow B 85 16 (.slice (some ⟨g, 0, none⟩) (n + 1) cap) (n + 1) (xs ++ us) → w.grownBy w' v.ownBlock → (v.ownBlock = some g ∨ w.heap.size ≤ g) → wpList Tryz.prog ops Q rest (a.put o.dst (.slice (some ⟨g, 0, none⟩) (n + 1) cap)) w') : wpList Tryz.prog ops Q (o :: rest) a (w.alloc (.cells us.toArray 85)) := by
  obtain ⟨i0, hi, hz0, hz1, hz2⟩ := info_parts Tryz.info85b
  exact wpList_pushN hgd s x 57 ho 85 i0 _ 16 184 Tryz.underlying57 hi hz0 hz1 hz2 rfl (by omega) (by omega) B v n xs hs hown us hul hu hx hn hB h
end
end Go.Proofs.YtbbocbdoiealoaaGreatDoor
namespace Go.Proofs.YtbbocbdoiealoaaGreatDoor
open Go.RowKit Go.Maps
theorem ss_kept0 {w w' : World} {B : Nat} {X : Nat → Prop} {v : Value} {q : List Tld} (h : Ss w B X v q) (hf : w.grownBy w' none) : Ss w' B X v q :=
  h.kp (Kp.of (F := fun _ => False) hf) (fun _ _ h => h) (fun _ _ h => h.elim) (fun _ _ h => h)
end Go.Proofs.YtbbocbdoiealoaaGreatDoor
namespace Go.Proofs.YtbbocbdoiealoaaGreatDoor
open Go.RowKit Go.Maps
def Tile : Nat → List Tld → Nat → Prop
  | a, [], b => a = b
  | a, x :: q, b => x.s.frm = a ∧ a < x.s.to ∧ Tile x.s.to q b
theorem Tile.snoc : ∀ {q : List Tld} {a b : Nat} {x : Tld}, Tile a q b → x.s.frm = b → b < x.s.to → Tile a (q ++ [x]) x.s.to
  | [], a, b, x, h, h1, h2 => by
    have h : a = b := h
    subst h
    exact ⟨h1, h2, rfl⟩
  | y :: q, a, b, x, h, h1, h2 => ⟨h.1, h.2.1, Tile.snoc h.2.2 h1 h2⟩
theorem Tile.le : ∀ {q : List Tld} {a b : Nat}, Tile a q b → a + q.length ≤ b
  | [], a, b, h => by
    have h : a = b := h
    simp [h]
  | y :: q, a, b, h => by
    have := Tile.le h.2.2
    have h2 := h.2.1
    simp
    omega
structure AlI (w : World) (L : Nat) (raw : Bs) (at_ : Nat) (q : List Tld) (v : Value) (wr : World) : Prop where
  le : at_ ≤ raw.length
  ss : Ss wr w.heap.size (fun _ => False) v q
  tile : Tile 0 q at_
  run : (fl L 0).run raw = (((fl L at_).run (raw.drop at_)).1, q.map Tld.s ++ ((fl L at_).run (raw.drop at_)).2)
  gb : w.grownBy wr none
structure AlR (w : World) (L : Nat) (raw : Bs) (q : List Tld) (v : Value) (left : Int) (wr : World) : Prop where
  ss : Ss wr w.heap.size (fun _ => False) v q
  run : ((fl L 0).run raw).2 = q.map Tld.s
  tile : ∃ b, b ≤ raw.length ∧ Tile 0 q b ∧ ((((fl L 0).run raw).1.ended = true ∧ left = 0 ∧ ((fl L 0).run raw).1.kept = []) ∨ (((fl L 0).run raw).1.ended = false ∧ left = ((raw.length - b : Nat) : Int) ∧ (((fl L 0).run raw).1.kept = [] ∨ ((fl L 0).run raw).1.kept.length = raw.length - b)))
  gb : w.grownBy wr none
theorem AlI.start (w : World) (L : Nat) (raw : Bs) {wr : World} (hg : w.grownBy wr none) : AlI w L raw 0 [] (.slice none 0 0) wr :=
  ⟨Nat.zero_le _, Ss.nil _ _ _, rfl, by simp, hg⟩
theorem AlI.done {w : World} {L : Nat} {raw : Bs} {at_ : Nat} {q : List Tld} {v : Value} {wr w2 : World} (h : AlI w L raw at_ q v wr) (hN : StepN L at_ (raw.drop at_)) (hg : wr.grownBy w2 none) : AlR w L raw q v ((raw.length - at_ : Nat) : Int) w2 := by
  obtain ⟨G, h1, h2, h3⟩ := hN
  have hr := h.run
  rw [h1] at hr
  refine ⟨ss_kept0 h.ss hg, by rw [hr]; simp, ⟨at_, h.le, h.tile, .inr ⟨by rw [hr]; exact h2, rfl, ?_⟩⟩, gb_trans h.gb hg⟩
  rw [hr]
  rw [List.length_drop] at h3
  exact h3
theorem AlI.push {w : World} {L : Nat} {raw : Bs} {at_ : Nat} {q : List Tld} {v : Value} {wr w2 w3 w4 : World} (h : AlI w L raw at_ q v wr) {s : Stp} {ck cd cm : Value} (hg : wr.grownBy w2 none)
    (hk : w2.ownsRow wr.heap.size 9 1 ck s.cmd.keys.length (s.cmd.keys.map sv)) (hd : w2.ownsRow wr.heap.size 5 1 cd s.data.length (s.data.map b8)) (hm : w2.ownsRow wr.heap.size 79 3 cm s.cmd.mt.length (fcs s.cmd.mt)) (hn : s.data = [] → cd = .slice none 0 0)
    (hg3 : w2.grownBy w3 none) {g cap : Nat} (hr : w4.ownsRow w.heap.size 85 16 (.slice (some ⟨g, 0, none⟩) (q.length + 1) cap) (q.length + 1) (q.flatMap tldL ++ stpL s ck cd cm)) (hg4 : w3.grownBy w4 v.ownBlock) :
    Ss w4 w.heap.size (fun _ => False) (.slice (some ⟨g, 0, none⟩) (q.length + 1) cap) (q ++ [⟨s, ck, cd, cm⟩]) ∧ w.grownBy w4 none := by
  have hg3' := gb_trans hg hg3
  have s3 := ss_kept0 h.ss hg3'
  have n3 : StR w3 (fun _ => False) s ck cd cm := by
    have e : ∀ {B t z m : Nat} {u : Value} {xs : List Value}, w2.ownsRow B t z u m xs → w3.ownsRow 0 t z u m xs := fun hh => row_base (row_kept hh hg3 (fun k _ e => by cases e)) (Nat.zero_le _)
    exact ⟨e hk, e hd, e hm, fun _ _ => id, fun _ _ => id, fun _ _ => id, hn⟩
  have k4 : Kp (fun k => False ∨ v.ownBlock = some k) w3 w4 := (Kp.refl _ w3).step hg4 (fun i hi => .inl (.inr hi))
  refine ⟨⟨?_, ?_⟩, ?_⟩
  · rw [List.length_append, List.flatMap_append]
    simpa using hr
  · intro x hx
    rcases List.mem_append.1 hx with hx | hx
    · exact ((s3.all x hx).wide s3.row).kp k4 (fun k _ hf => hf) (fun _ _ hf => hf.elim)
    · simp at hx
      subst hx
      exact (n3.wide s3.row).kp k4 (fun k _ hf => hf) (fun _ _ hf => hf.elim)
  · exact gb_far (gb_trans h.gb hg3') hg4 (fun i hi => (World.ownsRow.lt h.ss.row i hi).1) (Nat.le_refl _)
theorem AlI.run_step {w : World} {L : Nat} {raw : Bs} {at_ : Nat} {q : List Tld} {v : Value} {wr : World} (h : AlI w L raw at_ q v wr) {s : Stp} {n : Nat} (hY : StepY L at_ (raw.drop at_) s n) :
    ∃ G, (s.cmd.verb ≠ 18 → G = fl L (at_ + n)) ∧ (s.cmd.verb = 18 → G.st = 5 ∧ G.ended = true ∧ G.kept = []) ∧ (fl L 0).run raw = ((G.run (raw.drop (at_ + n))).1, q.map Tld.s ++ s :: (G.run (raw.drop (at_ + n))).2) ∧ at_ + n ≤ raw.length := by
  obtain ⟨G, h1, h2, h3⟩ := hY.run
  refine ⟨G, h2, h3, ?_, ?_⟩
  · rw [h.run]
    have e : raw.drop at_ = (raw.drop at_).take n ++ raw.drop (at_ + n) := by rw [← List.drop_drop, List.take_append_drop]
    rw [e, Fd.run_app, h1]
    simp
  · have := hY.le
    rw [List.length_drop] at this
    have := h.le
    omega
theorem AlI.next {w : World} {L : Nat} {raw : Bs} {at_ : Nat} {q : List Tld} {v : Value} {wr w2 w3 w4 : World} (h : AlI w L raw at_ q v wr) {s : Stp} {n : Nat} {ck cd cm : Value} (hY : StepY L at_ (raw.drop at_) s n) (hg : wr.grownBy w2 none)
    (hk : w2.ownsRow wr.heap.size 9 1 ck s.cmd.keys.length (s.cmd.keys.map sv)) (hd : w2.ownsRow wr.heap.size 5 1 cd s.data.length (s.data.map b8)) (hm : w2.ownsRow wr.heap.size 79 3 cm s.cmd.mt.length (fcs s.cmd.mt)) (hn : s.data = [] → cd = .slice none 0 0)
    (hg3 : w2.grownBy w3 none) {g cap : Nat} (hr : w4.ownsRow w.heap.size 85 16 (.slice (some ⟨g, 0, none⟩) (q.length + 1) cap) (q.length + 1) (q.flatMap tldL ++ stpL s ck cd cm)) (hg4 : w3.grownBy w4 v.ownBlock) (hv : s.cmd.verb ≠ 18) :
    AlI w L raw s.to (q ++ [⟨s, ck, cd, cm⟩]) (.slice (some ⟨g, 0, none⟩) (q.length + 1) cap) w4 := by
  obtain ⟨h1, h2⟩ := h.push hg hk hd hm hn hg3 hr hg4
  obtain ⟨G, h3, -, h4, h5⟩ := h.run_step hY
  have ht := hY.to
  have hp := hY.pos
  refine ⟨by omega, h1, Tile.snoc h.tile hY.frm (by show at_ < s.to; omega), ?_, h2⟩
  rw [h4, h3 hv, ht]
  simp
theorem AlI.quit {w : World} {L : Nat} {raw : Bs} {at_ : Nat} {q : List Tld} {v : Value} {wr w2 w3 w4 : World} (h : AlI w L raw at_ q v wr) {s : Stp} {n : Nat} {ck cd cm : Value} (hY : StepY L at_ (raw.drop at_) s n) (hg : wr.grownBy w2 none)
    (hk : w2.ownsRow wr.heap.size 9 1 ck s.cmd.keys.length (s.cmd.keys.map sv)) (hd : w2.ownsRow wr.heap.size 5 1 cd s.data.length (s.data.map b8)) (hm : w2.ownsRow wr.heap.size 79 3 cm s.cmd.mt.length (fcs s.cmd.mt)) (hn : s.data = [] → cd = .slice none 0 0)
    (hg3 : w2.grownBy w3 none) {g cap : Nat} (hr : w4.ownsRow w.heap.size 85 16 (.slice (some ⟨g, 0, none⟩) (q.length + 1) cap) (q.length + 1) (q.flatMap tldL ++ stpL s ck cd cm)) (hg4 : w3.grownBy w4 v.ownBlock) (hv : s.cmd.verb = 18) :
    AlR w L raw (q ++ [⟨s, ck, cd, cm⟩]) (.slice (some ⟨g, 0, none⟩) (q.length + 1) cap) 0 w4 := by
  obtain ⟨h1, h2⟩ := h.push hg hk hd hm hn hg3 hr hg4
  obtain ⟨G, -, h3, h4, h5⟩ := h.run_step hY
  have ht := hY.to
  have hp := hY.pos
  obtain ⟨g1, g2, g3⟩ := h3 hv
  rw [run_over g1] at h4
  refine ⟨h1, by rw [h4]; simp, ⟨s.to, by omega, Tile.snoc h.tile hY.frm (by show at_ < s.to; omega), .inl ⟨by rw [h4]; exact g2, rfl, by rw [h4]; exact g3⟩⟩, h2⟩
end Go.Proofs.YtbbocbdoiealoaaGreatDoor
