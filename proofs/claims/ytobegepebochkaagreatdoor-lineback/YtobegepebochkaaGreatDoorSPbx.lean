import Derived.Test.YtobegepebochkaaGreatDoorSPbd
import Derived.Test.YtobegepebochkaaGreatDoorSPbr
import Derived.Test.YtobegepebochkaaGreatDoorSPbt
import Derived.Test.YtobegepebochkaaGreatDoorSTr
set_option linter.unusedVariables false
set_option linter.unusedSimpArgs false
namespace Go.Proofs.YtobegepebochkaaGreatDoor
open Go.RowKit Go.Maps
attribute [local go_sem] Oper.semAt_some undef
set_option maxRecDepth 100000 in
set_option maxHeartbeats 8000000 in
theorem lb_r7 {W : World} {g o N cc rl rc k dl dc : Nat} {ra da : Option Addr} {en v : Int} {T : Bool} {ps : String} {K : Act → World → Prop} {Q : Exit → Act → World → Prop} {x1 x2 x3 x4 x6 x8 x10 x11 x12 x13 x14 x15 x16 x17 x18 x19 x20 x21 x22 x23 x24 x25 x26 x27 x28 x29 x30 x31 x32 x33 x34 x35 x36 x37 x38 x39 x40 x41 x42 x43 x44 x45 x46 x47 x48 x49 x50 x51 x52 x53 x54 x55 x56 x57 x58 x59 x60 x61 x62 x63 x64 x65 x66 x67 x68 x69 x70 x71 x72 x73 x74 x75 x76 x77 x78 x79 x80 x81 x82 x83 x84 x85 x86 x87 x88 x89 x90 x91 x92 x93 x94 x95 x96 x97 x98 x99 x100 x101 x102 x103 x104 x105 x106 x107 x108 x109 x110 x111 x112 x113 x114 x115 x116 : Value}
    (hk : k < N) (hN : N ≤ 9223372036854775807) (p0 : W.cell? ⟨g, o + k * 11, none⟩ = some (.int .i64 v)) (p6 : W.cell? ⟨g, o + k * 11 + 6, none⟩ = some (.slice da dl dc))
    (hT : (((decide (en ≠ 0) || decide (500 < dl)) || decide (12000 < rl)) || decide (v = 18)) = T)
    (hK : ∀ (u32 u33 u34 u35 u36 u37 u38 u39 u40 u41 u42 u43 u44 u45 u46 u47 u48 u49 u50 u51 u52 u53 u54 u55 : Value), u55 = Value.bool T → K ⟨List.toArray (Value.slice (some ⟨g, o, none⟩) N cc :: x1 :: x2 :: x3 :: x4 :: Value.slice ra rl rc :: x6 :: Value.int .i64 (k : Int) :: x8 :: Value.int .i64 en :: x10 :: x11 :: x12 :: x13 :: x14 :: x15 :: x16 :: x17 :: x18 :: x19 :: x20 :: x21 :: x22 :: x23 :: x24 :: x25 :: x26 :: x27 :: x28 :: x29 :: x30 :: x31 :: u32 :: u33 :: u34 :: u35 :: u36 :: u37 :: u38 :: u39 :: u40 :: u41 :: u42 :: u43 :: u44 :: u45 :: u46 :: u47 :: u48 :: u49 :: u50 :: u51 :: u52 :: u53 :: u54 :: u55 :: x56 :: x57 :: x58 :: x59 :: x60 :: x61 :: x62 :: x63 :: x64 :: x65 :: x66 :: x67 :: x68 :: x69 :: x70 :: x71 :: x72 :: x73 :: x74 :: x75 :: x76 :: x77 :: x78 :: x79 :: x80 :: x81 :: x82 :: x83 :: x84 :: x85 :: x86 :: x87 :: x88 :: x89 :: x90 :: x91 :: x92 :: x93 :: x94 :: x95 :: x96 :: x97 :: x98 :: x99 :: x100 :: x101 :: x102 :: x103 :: x104 :: x105 :: x106 :: x107 :: x108 :: x109 :: x110 :: x111 :: x112 :: x113 :: x114 :: x115 :: x116 :: []), []⟩ W) :
    (Code.region 7 #[{ dst := some 32, op := Op.move (Operand.tmp 9), type := 3, pos := ps, after := #[], guard := none }, { dst := some 33, op := Op.binOp BinOp.neq 3 (Operand.tmp 32) (Operand.const (Value.int IntKind.i64 0)) 3, type := 4, pos := ps, after := #[{ on := 0, ground := Ground.data }], guard := none }, { dst := some 34, op := Op.move (Operand.tmp 33), type := 4, pos := ps, after := #[{ on := 1, ground := Ground.data }], guard := none }, { dst := some 35, op := Op.move (Operand.tmp 0), type := 63, pos := ps, after := #[{ on := 2, ground := Ground.guard }], guard := some (2, false) }, { dst := some 36, op := Op.move (Operand.tmp 7), type := 3, pos := ps, after := #[{ on := 2, ground := Ground.guard }], guard := some (2, false) }, { dst := some 37, op := Op.indexAddr 63 (Operand.tmp 35) (Operand.tmp 36), type := 0, pos := ps, after := #[{ on := 3, ground := Ground.data }, { on := 4, ground := Ground.data }, { on := 2, ground := Ground.guard }], guard := some (2, false) }, { dst := some 38, op := Op.fieldAddr 41 (Operand.tmp 37) 6, type := 0, pos := ps, after := #[{ on := 5, ground := Ground.data }, { on := 2, ground := Ground.guard }], guard := some (2, false) }, { dst := some 39, op := Op.load 38 (Operand.tmp 38), type := 38, pos := ps, after := #[{ on := 6, ground := Ground.data }, { on := 2, ground := Ground.guard }], guard := some (2, false) }, { dst := some 40, op := Op.call { callee := Callee.builtin Builtin.len, args := #[Operand.tmp 39], argTypes := #[38] }, type := 3, pos := ps, after := #[{ on := 7, ground := Ground.data }, { on := 2, ground := Ground.guard }], guard := some (2, false) }, { dst := some 41, op := Op.binOp BinOp.gtr 3 (Operand.tmp 40) (Operand.const (Value.int IntKind.i64 500)) 3, type := 4, pos := ps, after := #[{ on := 8, ground := Ground.data }, { on := 2, ground := Ground.guard }], guard := some (2, false) }, { dst := some 42, op := Op.pick (Operand.tmp 34) (Operand.const (Value.bool true)) (Operand.tmp 41), type := 4, pos := ps, after := #[{ on := 2, ground := Ground.data }, { on := 9, ground := Ground.data }], guard := none }, { dst := some 43, op := Op.move (Operand.tmp 42), type := 4, pos := ps, after := #[{ on := 10, ground := Ground.data }, { on := 2, ground := Ground.chain }], guard := none }, { dst := some 44, op := Op.move (Operand.tmp 5), type := 38, pos := ps, after := #[{ on := 11, ground := Ground.guard }], guard := some (11, false) }, { dst := some 45, op := Op.call { callee := Callee.builtin Builtin.len, args := #[Operand.tmp 44], argTypes := #[38] }, type := 3, pos := ps, after := #[{ on := 12, ground := Ground.data }, { on := 11, ground := Ground.guard }], guard := some (11, false) }, { dst := some 46, op := Op.binOp BinOp.gtr 3 (Operand.tmp 45) (Operand.const (Value.int IntKind.i64 12000)) 3, type := 4, pos := ps, after := #[{ on := 13, ground := Ground.data }, { on := 11, ground := Ground.guard }], guard := some (11, false) }, { dst := some 47, op := Op.pick (Operand.tmp 43) (Operand.const (Value.bool true)) (Operand.tmp 46), type := 4, pos := ps, after := #[{ on := 11, ground := Ground.data }, { on := 14, ground := Ground.data }], guard := none }, { dst := some 48, op := Op.move (Operand.tmp 47), type := 4, pos := ps, after := #[{ on := 15, ground := Ground.data }, { on := 11, ground := Ground.chain }], guard := none }, { dst := some 49, op := Op.move (Operand.tmp 0), type := 63, pos := ps, after := #[{ on := 16, ground := Ground.guard }], guard := some (16, false) }, { dst := some 50, op := Op.move (Operand.tmp 7), type := 3, pos := ps, after := #[{ on := 16, ground := Ground.guard }], guard := some (16, false) }, { dst := some 51, op := Op.indexAddr 63 (Operand.tmp 49) (Operand.tmp 50), type := 0, pos := ps, after := #[{ on := 17, ground := Ground.data }, { on := 18, ground := Ground.data }, { on := 16, ground := Ground.guard }], guard := some (16, false) }, { dst := some 52, op := Op.fieldAddr 41 (Operand.tmp 51) 0, type := 0, pos := ps, after := #[{ on := 19, ground := Ground.data }, { on := 16, ground := Ground.guard }], guard := some (16, false) }, { dst := some 53, op := Op.load 3 (Operand.tmp 52), type := 3, pos := ps, after := #[{ on := 20, ground := Ground.data }, { on := 16, ground := Ground.guard }], guard := some (16, false) }, { dst := some 54, op := Op.binOp BinOp.eql 3 (Operand.tmp 53) (Operand.const (Value.int IntKind.i64 18)) 3, type := 4, pos := ps, after := #[{ on := 21, ground := Ground.data }, { on := 16, ground := Ground.guard }], guard := some (16, false) }, { dst := some 55, op := Op.pick (Operand.tmp 48) (Operand.const (Value.bool true)) (Operand.tmp 54), type := 4, pos := ps, after := #[{ on := 16, ground := Ground.data }, { on := 22, ground := Ground.data }], guard := none }] false).wp Tryz.prog (Exit.then K Q) ⟨List.toArray (Value.slice (some ⟨g, o, none⟩) N cc :: x1 :: x2 :: x3 :: x4 :: Value.slice ra rl rc :: x6 :: Value.int .i64 (k : Int) :: x8 :: Value.int .i64 en :: x10 :: x11 :: x12 :: x13 :: x14 :: x15 :: x16 :: x17 :: x18 :: x19 :: x20 :: x21 :: x22 :: x23 :: x24 :: x25 :: x26 :: x27 :: x28 :: x29 :: x30 :: x31 :: x32 :: x33 :: x34 :: x35 :: x36 :: x37 :: x38 :: x39 :: x40 :: x41 :: x42 :: x43 :: x44 :: x45 :: x46 :: x47 :: x48 :: x49 :: x50 :: x51 :: x52 :: x53 :: x54 :: x55 :: x56 :: x57 :: x58 :: x59 :: x60 :: x61 :: x62 :: x63 :: x64 :: x65 :: x66 :: x67 :: x68 :: x69 :: x70 :: x71 :: x72 :: x73 :: x74 :: x75 :: x76 :: x77 :: x78 :: x79 :: x80 :: x81 :: x82 :: x83 :: x84 :: x85 :: x86 :: x87 :: x88 :: x89 :: x90 :: x91 :: x92 :: x93 :: x94 :: x95 :: x96 :: x97 :: x98 :: x99 :: x100 :: x101 :: x102 :: x103 :: x104 :: x105 :: x106 :: x107 :: x108 :: x109 :: x110 :: x111 :: x112 :: x113 :: x114 :: x115 :: x116 :: []), []⟩ W := by
  have HT := Lib.hid hT
  have HK := Lib.hid hK
  clear hT hK
  have hd : decide (k < N) = true := decide_eq_true hk
  by_cases he : en = 0
  · subst he
    by_cases h1 : 500 < dl
    · have d1 : decide (500 < dl) = true := decide_eq_true h1
      have d1' : decide ((500 : Int) < (dl : Int)) = true := decide_eq_true (by omega)
      go_wp2_with fail
      all_goals first | omega | exact HK.out _ _ _ _ _ _ _ _ _ _ _ _ _ _ _ _ _ _ _ _ _ _ _ _ (by rw [← HT.out]; simp [h1])
    · have d1 : decide (500 < dl) = false := decide_eq_false h1
      have d1' : decide ((500 : Int) < (dl : Int)) = false := decide_eq_false (by omega)
      by_cases h2 : 12000 < rl
      · have d2 : decide (12000 < rl) = true := decide_eq_true h2
        have d2' : decide ((12000 : Int) < (rl : Int)) = true := decide_eq_true (by omega)
        go_wp2_with fail
        all_goals first | omega | exact HK.out _ _ _ _ _ _ _ _ _ _ _ _ _ _ _ _ _ _ _ _ _ _ _ _ (by rw [← HT.out]; simp [h2])
      · have d2 : decide (12000 < rl) = false := decide_eq_false h2
        have d2' : decide ((12000 : Int) < (rl : Int)) = false := decide_eq_false (by omega)
        by_cases h3 : v = 18
        · subst h3
          go_wp2_with fail
          all_goals first | omega | exact HK.out _ _ _ _ _ _ _ _ _ _ _ _ _ _ _ _ _ _ _ _ _ _ _ _ (by rw [← HT.out]; simp)
        · have d3 : (v == 18) = false := by simpa using h3
          go_wp2_with fail
          all_goals first | omega | contradiction | exact HK.out _ _ _ _ _ _ _ _ _ _ _ _ _ _ _ _ _ _ _ _ _ _ _ _ (by rw [← HT.out]; simp [h1, h2, h3])
  · have d0 : (en != 0) = true := by simpa using he
    go_wp2_with fail
    all_goals first | omega | contradiction | exact HK.out _ _ _ _ _ _ _ _ _ _ _ _ _ _ _ _ _ _ _ _ _ _ _ _ (by rw [← HT.out]; simp [he])
end Go.Proofs.YtobegepebochkaaGreatDoor
namespace Go.Proofs.YtobegepebochkaaGreatDoor
open Go.RowKit Go.Maps
structure LfI (w3 : World) (fb : Nat) (lim : Int) (ps : List Bs) (k : Nat) (F : Fd) (kv rv : Value) (q : List Tld) (wr : World) : Prop where
  hk : k ≤ ps.length
  isf : IsF wr fb F kv
  kvB : ∀ j, kv.ownBlock = some j → w3.heap.size ≤ j
  ok : F.Ok
  run : (fd0 lim).run ((ps.take k).flatten) = (F, q.map Tld.s)
  ss : Ss wr w3.heap.size (XF fb kv) rv q
  kp : Kp (fun j => j = fb ∨ w3.heap.size ≤ j) w3 wr
  er : Er wr
theorem LfI.ql {w3 wr : World} {fb : Nat} {lim : Int} {ps : List Bs} {k : Nat} {F : Fd} {kv rv : Value} {q : List Tld} (h : LfI w3 fb lim ps k F kv rv q wr) : q.length ≤ ps.flatten.length := by
  have h1 := run_len ((ps.take k).flatten) (fd0 lim)
  rw [h.run] at h1
  have h2 := flat_le ps k
  simp only [List.length_map] at h1
  omega
theorem LfI.tk {w3 wr : World} {fb : Nat} {lim : Int} {ps : List Bs} {k : Nat} {F : Fd} {kv rv : Value} {q : List Tld} (h : LfI w3 fb lim ps k F kv rv q wr) : F.taken = ((ps.take k).flatten).length := by
  have h1 := (run_facts ((ps.take k).flatten) (fd0 lim)).1
  rw [h.run] at h1
  have h2 : (fd0 lim).taken = 0 := rfl
  rw [h2] at h1
  simpa using h1
theorem LfI.next {w3 wr w4 w5 : World} {fb : Nat} {lim : Int} {ps : List Bs} {k : Nat} {F : Fd} {kv rv : Value} {q : List Tld} (h : LfI w3 fb lim ps k F kv rv q wr) (h3 : 3 < fb ∧ 3 < w3.heap.size) {p : Bs} (hp : ps[k]? = some p)
    {kv' rv2 v' : Value} {q2 : List Tld} (i4 : IsF w4 fb (F.run p).1 kv') (s4 : Ss w4 wr.heap.size (XF fb kv') rv2 q2) (e4 : q2.map Tld.s = (F.run p).2) (k4 : Kp (XF fb kv) wr w4) (o4 : ∀ j, kv'.ownBlock = some j → kv.ownBlock = some j ∨ wr.heap.size ≤ j)
    (r5 : w5.ownsRow w3.heap.size 86 16 v' (q.length + q2.length) (q.flatMap tldL ++ q2.flatMap tldL)) (g5 : w4.grownBy w5 rv.ownBlock) :
    LfI w3 fb lim ps (k + 1) (F.run p).1 kv' v' (q ++ q2) w5 := by
  have hk := (List.getElem?_eq_some_iff.1 hp).1
  obtain ⟨_, _, _, _, _, hx, -, -⟩ := id h.isf
  have hXF : ∀ j, XF fb kv j → j = fb ∨ w3.heap.size ≤ j := by
    rintro j (e | e)
    · exact .inl e
    · exact .inr (h.kvB j e)
  have row4 := row_kp h.ss.row k4 (row_xf h.ss.row (by decide) hx)
  have hsz : w3.heap.size ≤ wr.heap.size := h.kp.size
  have all4 : ∀ x ∈ q, StR w4 (XF fb kv') x.s x.ck x.cd x.cm := fun x hx2 => (h.ss.all x hx2).kp k4 (fun j _ hf => hf) (by
    rintro j hj (e | e)
    · exact .inl e
    · rcases o4 j e with e | e
      · exact .inr e
      · omega)
  have kk : Kp (fun j => j = fb ∨ w3.heap.size ≤ j) w3 w5 := by
    refine (h.kp.trans k4 (fun i hi => hi) (fun i hi => ?_)).step g5 (fun i hi => ?_)
    · rcases hXF i hi with e | e
      · exact .inl (.inl e)
      · exact .inl (.inr e)
    · exact .inl (.inr (World.ownsRow.lt h.ss.row i hi).1)
  refine ⟨by omega, i4.oth g5 (oth_row row4), ?_, ok_run p h.ok, ?_, ⟨?_, ?_⟩, kk, ?_⟩
  · intro j hj
    rcases o4 j hj with e | e
    · exact h.kvB j e
    · omega
  · rw [flat_take hp, Fd.run_app, h.run]
    simp [e4]
  · rw [List.length_append, List.flatMap_append]
    exact r5
  · intro x hx2
    rcases List.mem_append.1 hx2 with hx2 | hx2
    · exact (all4 x hx2).oth g5 (oth_row row4)
    · exact (s4.all x hx2).oth g5 (oth_row row4)
  · have hE5 : Er w5 := (h.er.kp (X := fun j => 3 < j) ((k4.mono (G := fun j => 3 < j) (fun i hi => ?_)).step g5 (fun i hi => ?_)) (by omega) (by omega))
    · exact hE5
    · rcases hXF i hi with e | e
      · left; omega
      · left; omega
    · have := (World.ownsRow.lt h.ss.row i hi).1
      left; omega
structure LbE (w : World) (raw : Bs) (q : List Tld) (fb : Nat) (qv rv : Value) (q2 : List Tld) (kv : Value) (W : World) : Prop where
  isf : IsF W fb (fl 500 raw.length) kv
  got : Sqg W rv q2
  wnt : Sqg W qv q
  s : q2.map Tld.s = q.map Tld.s
  gb : w.grownBy W none
  er : Er W
theorem LbE.of {w wr w3 W : World} {cs : List CI} {k : Nat} {raw : Bs} {q q2 : List Tld} {x5 x6 rv kv : Value} {fb : Nat} {ps : List Bs} {F : Fd} (h : LbI w cs k raw q x5 x6 wr) (g3 : wr.grownBy w3 none) (hfb : wr.heap.size ≤ fb) (hps : ps.flatten = raw) (hf : LfI w3 fb 500 ps ps.length F kv rv q2 W) : LbE w raw q fb x6 rv q2 kv W := by
  have hr := hf.run
  rw [List.take_length, hps, show fd0 500 = fl 500 0 from rfl, h.run] at hr
  injection hr with hr1 hr2
  have gW : w.grownBy W none := (((Kp.of (F := fun j => w.heap.size ≤ j) (gb_trans h.gb g3)).trans hf.kp (fun i h => h) (fun i hi => by
    left
    have h1 := h.gb.size
    have h2 := g3.size
    rcases hi with e | e <;> omega)).grown (fun i h => h))
  have grow : wr.grownBy W none := (((Kp.of (F := fun j => wr.heap.size ≤ j) g3).trans hf.kp (fun i h => h) (fun i hi => by
    left
    have h2 := g3.size
    rcases hi with e | e <;> omega)).grown (fun i h => h))
  have rowW := row_kept h.wnt grow (fun _ _ e => by cases e)
  have hdl : ∀ x ∈ q2, x.s.data.length ≤ 1099511627776 := by
    intro x hx
    have hm : x.s ∈ q.map Tld.s := by rw [hr2]; exact List.mem_map.2 ⟨x, hx, rfl⟩
    obtain ⟨y, hy, e⟩ := List.mem_map.1 hm
    have := (h.sg y hy).d
    rw [← e]
    rcases this with ⟨e0, -⟩ | ⟨_, _, _, _, hl, _⟩
    · rw [e0]; simp
    · exact hl
  refine ⟨by rw [hr1]; exact hf.isf, (hf.ss.sq hdl).g2, ?_, hr2.symm, gW, hf.er⟩
  obtain ⟨a, c, e, -, h1, h2, h3⟩ := row_shape rowW
  unfold maxLen at h2
  refine ⟨⟨a, c, e, h1, by omega⟩, fun k x hx => ?_, fun x hx => (h.sg x hx).kept0 gW⟩
  have hk := (List.getElem?_eq_some_iff.1 hx).1
  obtain ⟨g, rfl⟩ := h3 (by omega)
  subst e
  refine ⟨g, c, rfl, fun j u hu => row_cell rowW _ _ ?_⟩
  have hj := (List.getElem?_eq_some_iff.1 hu).1
  rw [tl_get q k x j hx (by simpa using hj)]
  exact hu
end Go.Proofs.YtobegepebochkaaGreatDoor
