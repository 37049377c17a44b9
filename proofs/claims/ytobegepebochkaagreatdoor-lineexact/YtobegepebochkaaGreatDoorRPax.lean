import Derived.Test.YtobegepebochkaaGreatDoorRPaw
import Derived.Test.YtobegepebochkaaGreatDoorRPao
import Derived.Deep.LoopGhost
import Derived.Deep.CutRange
import Derived.Test.YtobegepebochkaaGreatDoorRPat
import Derived.Test.YtobegepebochkaaGreatDoorRPar
import Derived.Test.YtobegepebochkaaGreatDoorRPav
import Derived.ArgAppend
import Derived.Test.YtobegepebochkaaGreatDoorRPaa
set_option linter.unusedVariables false
set_option linter.unusedSimpArgs false
set_option maxRecDepth 100000
set_option maxHeartbeats 16000000
namespace Go.Proofs.YtobegepebochkaaGreatDoor
open Go.RowKit Go.Maps
abbrev sqUd0 (p : String) : Oper := { dst := some 17, op := Op.move (Operand.tmp 0), type := 57, pos := p, after := #[], guard := none }
abbrev sqUd1 (p : String) : Oper := { dst := some 18, op := Op.move (Operand.tmp 5), type := 3, pos := p, after := #[], guard := none }
abbrev sqUd2 (p : String) : Oper := { dst := some 19, op := Op.indexAddr 57 (Operand.tmp 17) (Operand.tmp 18), type := 0, pos := p, after := #[{ on := 0, ground := Ground.data }, { on := 1, ground := Ground.data }], guard := none }
abbrev sqUd3 (p : String) : Oper := { dst := some 20, op := Op.load 86 (Operand.tmp 19), type := 86, pos := p, after := #[{ on := 2, ground := Ground.data }], guard := none }
abbrev sqUd4 (p : String) : Oper := { dst := some 21, op := Op.move (Operand.tmp 1), type := 57, pos := p, after := #[], guard := none }
abbrev sqUd5 (p : String) : Oper := { dst := some 22, op := Op.move (Operand.tmp 5), type := 3, pos := p, after := #[], guard := none }
abbrev sqUd6 (p : String) : Oper := { dst := some 23, op := Op.indexAddr 57 (Operand.tmp 21) (Operand.tmp 22), type := 0, pos := p, after := #[{ on := 4, ground := Ground.data }, { on := 5, ground := Ground.data }], guard := none }
abbrev sqUd7 (p : String) : Oper := { dst := some 24, op := Op.load 86 (Operand.tmp 23), type := 86, pos := p, after := #[{ on := 6, ground := Ground.data }], guard := none }
abbrev sqUd8 (p : String) : Oper := { dst := some 26, op := Op.unOp UnOp.not 4 (Operand.tmp 25), type := 4, pos := p, after := #[{ on := 8, ground := Ground.data }], guard := none }
theorem tl_get : ∀ (q : List Tld) (k : Nat) (x : Tld) (j : Nat), q[k]? = some x -> j < 16 -> (q.flatMap tldL)[k * 16 + j]? = (tldL x)[j]?
  | [], k, x, j, h, _ => by simp at h
  | y :: q, 0, x, j, h, hj => by
    simp at h
    subst h
    rw [List.flatMap_cons, Nat.zero_mul, Nat.zero_add, List.getElem?_append_left (by simpa using hj)]
  | y :: q, k + 1, x, j, h, hj => by
    simp at h
    have e1 : (k + 1) * 16 + j = (tldL y).length + (k * 16 + j) := by simp; omega
    rw [List.flatMap_cons, e1, List.getElem?_append_right (by omega), Nat.add_sub_cancel_left]
    exact tl_get q k x j h hj
structure Sq (w : World) (v : Value) (q : List Tld) : Prop where
  shape : ∃ a c, v = .slice a q.length c /\ q.length <= c /\ c <= 9223372036854775807
  cell : ∀ k x, q[k]? = some x -> ∃ g c, v = .slice (some ⟨g, 0, none⟩) q.length c /\ ∀ j u, (tldL x)[j]? = some u -> w.cell? ⟨g, k * 16 + j, none⟩ = some u
  sr : ∀ x ∈ q, Sr w x.s x.ck x.cd x.cm
theorem samesteps_28 {w : World} {u v : Value} {q r : List Tld} (hu : Sq w u q) (hv : Sq w v r) (hs : q.map Tld.s = r.map Tld.s) :
    Calls Tryz.prog 28 #[u, v] w fun e w' => e = .returned (.bool true) /\ w.grownBy w' none := by
  obtain ⟨ua, uc, rfl, hu1, hu2⟩ := hu.shape
  obtain ⟨va, vc, rfl, hv1, hv2⟩ := hv.shape
  have hlen : r.length = q.length := by have := congrArg List.length hs; simpa using this.symm
  obtain ⟨n, hn⟩ : ∃ n, q.length = n := ⟨_, rfl⟩
  have hq := hu.cell
  have hr := hv.cell
  rw [hlen, hn] at hr hv1 ⊢
  rw [hn] at hq hu1
  go_enter Tryz.func28, Tryz.ntmps28
  go_wp2
  go_loopw [5] (fun x wr => ∃ k : Nat, k <= n /\ x = .int .i64 k /\ w.grownBy wr none) (fun x _ => n - (intOf x).toNat)
  case atStart => exact ⟨0, by omega, rfl, gb_refl _ _⟩
  case round =>
    obtain ⟨k, hk, rfl, hg⟩ := hrel
    rcases (by omega : k < n \/ k = n) with hlt | rfl
    . obtain ⟨⟨s, ck1, cd1, cm1⟩, hx⟩ : ∃ x, q[k]? = some x := ⟨_, List.getElem?_eq_getElem (by omega)⟩
      obtain ⟨⟨s2, ck2, cd2, cm2⟩, hy⟩ : ∃ x, r[k]? = some x := ⟨_, List.getElem?_eq_getElem (by omega)⟩
      have hss : s = s2 := by
        have h1 := congrArg (fun l => l[k]?) hs
        simp only [List.getElem?_map, hx, hy, Option.map_some] at h1
        injection h1
      subst hss
      obtain ⟨g1, cc1, e1, hA⟩ := hq k _ hx
      obtain ⟨g2, cc2, e2, hB⟩ := hr k _ hy
      injection e1 with e1 _ e1c
      injection e2 with e2 _ e2c
      subst e1 e2 e1c e2c
      have s1 := hu.sr _ (List.mem_of_getElem? hx)
      have s2 := hv.sr _ (List.mem_of_getElem? hy)
      obtain ⟨aA1, nA1, cA1, rfl⟩ := s1.k.shape
      obtain ⟨aA3, nA3, cA3, rfl⟩ := s1.m.shape
      obtain ⟨aA2, nA2, cA2, rfl⟩ := s1.d.shape3
      obtain ⟨aB1, nB1, cB1, rfl⟩ := s2.k.shape
      obtain ⟨aB3, nB3, cB3, rfl⟩ := s2.m.shape
      obtain ⟨aB2, nB2, cB2, rfl⟩ := s2.d.shape3
      have p0 : w.cell? ⟨g1, k * 16, none⟩ = some (.int .i64 s.cmd.verb) := hA 0 _ rfl
      have p1 : w.cell? ⟨g1, k * 16 + 1, none⟩ = some (.slice aA1 nA1 cA1) := hA 1 _ rfl
      have p2 : w.cell? ⟨g1, k * 16 + 2, none⟩ = some (.int .u64 s.cmd.flags) := hA 2 _ rfl
      have p3 : w.cell? ⟨g1, k * 16 + 3, none⟩ = some (.int .i64 s.cmd.exp) := hA 3 _ rfl
      have p4 : w.cell? ⟨g1, k * 16 + 4, none⟩ = some (.int .u64 s.cmd.tok) := hA 4 _ rfl
      have p5 : w.cell? ⟨g1, k * 16 + 5, none⟩ = some (.int .u64 s.cmd.del) := hA 5 _ rfl
      have p6 : w.cell? ⟨g1, k * 16 + 6, none⟩ = some (.slice aA2 nA2 cA2) := hA 6 _ rfl
      have p7 : w.cell? ⟨g1, k * 16 + 7, none⟩ = some (.bool s.cmd.nr) := hA 7 _ rfl
      have p8 : w.cell? ⟨g1, k * 16 + 8, none⟩ = some (.bool s.large) := hA 8 _ rfl
      have p9 : w.cell? ⟨g1, k * 16 + 9, none⟩ = some (.slice aA3 nA3 cA3) := hA 9 _ rfl
      have p10 : w.cell? ⟨g1, k * 16 + 10, none⟩ = some (sv s.cmd.what) := hA 10 _ rfl
      have p11 : w.cell? ⟨g1, k * 16 + 11, none⟩ = some (.int .i64 s.wk) := hA 11 _ rfl
      have p12 : w.cell? ⟨g1, k * 16 + 12, none⟩ = some (sv s.wt) := hA 12 _ rfl
      have p13 : w.cell? ⟨g1, k * 16 + 13, none⟩ = some (.int .i64 s.wp) := hA 13 _ rfl
      have p14 : w.cell? ⟨g1, k * 16 + 14, none⟩ = some (.int .i64 s.frm) := hA 14 _ rfl
      have p15 : w.cell? ⟨g1, k * 16 + 15, none⟩ = some (.int .i64 s.to) := hA 15 _ rfl
      have q0 : w.cell? ⟨g2, k * 16, none⟩ = some (.int .i64 s.cmd.verb) := hB 0 _ rfl
      have q1 : w.cell? ⟨g2, k * 16 + 1, none⟩ = some (.slice aB1 nB1 cB1) := hB 1 _ rfl
      have q2 : w.cell? ⟨g2, k * 16 + 2, none⟩ = some (.int .u64 s.cmd.flags) := hB 2 _ rfl
      have q3 : w.cell? ⟨g2, k * 16 + 3, none⟩ = some (.int .i64 s.cmd.exp) := hB 3 _ rfl
      have q4 : w.cell? ⟨g2, k * 16 + 4, none⟩ = some (.int .u64 s.cmd.tok) := hB 4 _ rfl
      have q5 : w.cell? ⟨g2, k * 16 + 5, none⟩ = some (.int .u64 s.cmd.del) := hB 5 _ rfl
      have q6 : w.cell? ⟨g2, k * 16 + 6, none⟩ = some (.slice aB2 nB2 cB2) := hB 6 _ rfl
      have q7 : w.cell? ⟨g2, k * 16 + 7, none⟩ = some (.bool s.cmd.nr) := hB 7 _ rfl
      have q8 : w.cell? ⟨g2, k * 16 + 8, none⟩ = some (.bool s.large) := hB 8 _ rfl
      have q9 : w.cell? ⟨g2, k * 16 + 9, none⟩ = some (.slice aB3 nB3 cB3) := hB 9 _ rfl
      have q10 : w.cell? ⟨g2, k * 16 + 10, none⟩ = some (sv s.cmd.what) := hB 10 _ rfl
      have q11 : w.cell? ⟨g2, k * 16 + 11, none⟩ = some (.int .i64 s.wk) := hB 11 _ rfl
      have q12 : w.cell? ⟨g2, k * 16 + 12, none⟩ = some (sv s.wt) := hB 12 _ rfl
      have q13 : w.cell? ⟨g2, k * 16 + 13, none⟩ = some (.int .i64 s.wp) := hB 13 _ rfl
      have q14 : w.cell? ⟨g2, k * 16 + 14, none⟩ = some (.int .i64 s.frm) := hB 14 _ rfl
      have q15 : w.cell? ⟨g2, k * 16 + 15, none⟩ = some (.int .i64 s.to) := hB 15 _ rfl
      have h39 := fun W (hg : w.grownBy W none) => samestep_39 s _ _ _ _ _ _ (s1.kept0 hg) (s2.kept0 hg)
      have d1 : ((k : Int) < (n : Int)) := by omega
      clear hq hr hu hv s1 s2 hA hB hx hy hs hn hlen
      go_wp2
      refine wp_region_noPanic ?_
      refine wp_region_held_drew (S := fun W : World => w.grownBy W none) (by kernel_rfl) (gb_drew hg) (fun hg2 => ?_)
      generalize wr.drew = W at hg2 ⊢
      refine tkZ 0 (sqUd0 _) rfl (by intro W hSw; go_simp; (try (with_reducible rfl))) ?_
      try simp only [Act.put, pY]
      refine tkZ 1 (sqUd1 _) rfl (by intro W hSw; go_simp; (try (with_reducible rfl))) ?_
      try simp only [Act.put, pY]
      refine tkZ 2 (sqUd2 _) rfl (by intro W hSw; go_simp; (try (with_reducible rfl))) ?_
      try simp only [Act.put, pY]
      refine tkZ 3 (sqUd3 _) rfl (by intro W hSw; have x0 := gb_cellN hSw p0; have x1 := gb_cellN hSw p1; have x2 := gb_cellN hSw p2; have x3 := gb_cellN hSw p3; have x4 := gb_cellN hSw p4; have x5 := gb_cellN hSw p5; have x6 := gb_cellN hSw p6; have x7 := gb_cellN hSw p7; have x8 := gb_cellN hSw p8; have x9 := gb_cellN hSw p9; have x10 := gb_cellN hSw p10; have x11 := gb_cellN hSw p11; have x12 := gb_cellN hSw p12; have x13 := gb_cellN hSw p13; have x14 := gb_cellN hSw p14; have x15 := gb_cellN hSw p15; go_simp; (try (with_reducible rfl))) ?_
      try simp only [Act.put, pY]
      refine tkZ 4 (sqUd4 _) rfl (by intro W hSw; go_simp; (try (with_reducible rfl))) ?_
      try simp only [Act.put, pY]
      refine tkZ 5 (sqUd5 _) rfl (by intro W hSw; go_simp; (try (with_reducible rfl))) ?_
      try simp only [Act.put, pY]
      refine tkZ 6 (sqUd6 _) rfl (by intro W hSw; go_simp; (try (with_reducible rfl))) ?_
      try simp only [Act.put, pY]
      refine tkZ 7 (sqUd7 _) rfl (by intro W hSw; have x0 := gb_cellN hSw q0; have x1 := gb_cellN hSw q1; have x2 := gb_cellN hSw q2; have x3 := gb_cellN hSw q3; have x4 := gb_cellN hSw q4; have x5 := gb_cellN hSw q5; have x6 := gb_cellN hSw q6; have x7 := gb_cellN hSw q7; have x8 := gb_cellN hSw q8; have x9 := gb_cellN hSw q9; have x10 := gb_cellN hSw q10; have x11 := gb_cellN hSw q11; have x12 := gb_cellN hSw q12; have x13 := gb_cellN hSw q13; have x14 := gb_cellN hSw q14; have x15 := gb_cellN hSw q15; go_simp; (try (with_reducible rfl))) ?_
      try simp only [Act.put, pY]
      refine wpAnyH_ready (rs := [8]) (by kernel_rfl) (by simp) ?_
      refine (AllReadyH.cons rfl (fun K hK => ?_) AllReadyH.nil)
      go_simp
      (with_reducible refine (h39 W hg2).mono ?_)
      rintro e W2 ⟨rfl, hg3⟩
      have hg4 := gb_trans hg2 hg3
      refine hK.out _ _ hg4 (fun hS => ?_)
      clear hK K hS
      try simp only [Act.put, pY]
      refine tkZ 9 (sqUd8 _) rfl (by intro W hSw; go_simp; (try (with_reducible rfl))) ?_
      try simp only [Act.put, pY]
      refine wpAnyH_done (by kernel_rfl) ?_ _
      refine NoPanic.normal ?_
      go_wp2
      refine ⟨⟨k + 1, by omega, by simp, hg4⟩, by simp [intOf]; omega⟩
    . have d1 : decide ((k : Int) < (k : Int)) = false := decide_eq_false (by omega)
      go_wp2
      go_ret
      exact ⟨rfl, hg⟩
end Go.Proofs.YtobegepebochkaaGreatDoor
namespace Go.Proofs.YtobegepebochkaaGreatDoor
open Go.RowKit Go.Maps
def Tile : Nat -> List Tld -> Nat -> Prop
  | a, [], b => a = b
  | a, x :: q, b => x.s.frm = a /\ a < x.s.to /\ Tile x.s.to q b
theorem Tile.snoc : ∀ {q : List Tld} {a b : Nat} {x : Tld}, Tile a q b -> x.s.frm = b -> b < x.s.to -> Tile a (q ++ [x]) x.s.to
  | [], a, b, x, h, h1, h2 => by
    have h : a = b := h
    subst h
    exact ⟨h1, h2, rfl⟩
  | y :: q, a, b, x, h, h1, h2 => ⟨h.1, h.2.1, Tile.snoc h.2.2 h1 h2⟩
theorem Tile.le : ∀ {q : List Tld} {a b : Nat}, Tile a q b -> a + q.length <= b
  | [], a, b, h => by
    have h : a = b := h
    simp [h]
  | y :: q, a, b, h => by
    have := Tile.le h.2.2
    have h2 := h.2.1
    simp
    omega
end Go.Proofs.YtobegepebochkaaGreatDoor
namespace Go.Proofs.YtobegepebochkaaGreatDoor
open Go.RowKit
structure Ty (sl el : TypeId) (ti : TypeInfo) (zv : Value) (sz bs : Nat) : Prop where
  u : Tryz.prog.underlying sl = some (.slice el)
  i : Tryz.prog.info? el = some ti
  z : ti.zero = some zv
  s : ti.size = sz
  b : ti.bytes = bs
  zs : zv.cells.size = sz
  pos : 0 < sz
  le : bs <= 1000
theorem some_ne2 {a b : Nat} (h : a ≠ b) : some a ≠ some b := fun e => h (Option.some.inj e)
theorem row_ge {w : World} {B : Nat} {e : TypeId} {s : Nat} {v : Value} {n : Nat} {xs : List Value} (h : w.ownsRow B e s v n xs) {j : Nat} (hj : v.ownBlock = some j) : B <= j /\ j < w.heap.size := World.ownsRow.lt h j hj
theorem gb_of_kp {w a b : World} {G : Nat -> Prop} (h : w.grownBy a none) (k : Kp G a b) (hG : ∀ j, G j -> w.heap.size <= j) : w.grownBy b none :=
  (((Kp.of (F := fun _ => False) h).trans k (fun _ h => h) (fun j hj => .inr (hG j hj)))).grown (fun _ h => h.elim)
def Psh (w w' : World) (v : Value) (n m : Nat) (v' : Value) : Prop :=
  (∃ g cap, v = .slice (some ⟨g, 0, none⟩) n cap /\ n + m <= cap /\ v' = .slice (some ⟨g, 0, none⟩) (n + m) cap /\ w.grownBy w' (some g)) \/
  (∃ g cap, v' = .slice (some ⟨g, 0, none⟩) (n + m) cap /\ w.heap.size <= g /\ w.grownBy w' none)
theorem psh_trans {w w1 w' : World} {v v' : Value} {n m : Nat} (h1 : ∀ r, w.grownBy w1 r) (h : Psh w1 w' v n m v') : Psh w w' v n m v' := by
  rcases h with ⟨g, cap, a1, a2, a3, a4⟩ | ⟨g, cap, a1, a2, a3⟩
  . exact .inl ⟨g, cap, a1, a2, a3, gb_trans (h1 _) a4⟩
  . exact .inr ⟨g, cap, a1, Nat.le_trans (h1 none).size a2, gb_trans (h1 _) a3⟩
theorem Psh.gb {w w' : World} {v v' : Value} {n m : Nat} (h : Psh w w' v n m v') : w.grownBy w' v.ownBlock := by
  rcases h with ⟨g, cap, rfl, _, _, h⟩ | ⟨g, cap, _, _, h⟩
  . exact h
  . exact gb_none _ h
theorem Psh.at' {w w' : World} {v v' : Value} {n m g : Nat} (h : Psh w w' v n m v') (hg : v'.ownBlock = some g) : v.ownBlock = some g \/ w.heap.size <= g := by
  rcases h with ⟨g1, cap, rfl, _, rfl, _⟩ | ⟨g1, cap, rfl, h1, _⟩
  . exact .inl (by simpa [Value.ownBlock] using hg)
  . simp [Value.ownBlock] at hg; exact .inr (by omega)
theorem mul_bd {n bs : Nat} (hn : n <= 100000000000) (hb : bs <= 1000) : n * bs <= 140737488355328 := Nat.le_trans (Nat.mul_le_mul hn hb) (by omega)
section
variable {sl el : TypeId} {ti : TypeInfo} {z : Value} {sz bs : Nat}
theorem run_psh (T : Ty sl el ti z sz bs) (w : World) (ty : TypeId) (v : Value) (n : Nat) (xs : List Value) (hown : w.ownsRow 0 el sz v n xs) (ad : Addr) (m c : Nat) (news : List Value) (hl : news.length = m * sz) (hnews : ∀ j u, news[j]? = some u -> w.cell? (ad.add j) = some u) (h1 : ∀ u ∈ news, u.oneCell' = true) (hm : 0 < m) (hn : n + m <= 1000000000) :
    ∃ v' w', (Builtin.append_ #[sl, sl] ty #[v, .slice (some ad) m c]).run Tryz.prog w = .ok v' w' /\ w'.ownsRow 0 el sz v' (n + m) (xs ++ news) /\ Psh w w' v n m v' := by
  have hbd : (n + m) * bs <= 140737488355328 := mul_bd (by omega) T.le
  rcases hown.2 with ⟨rfl, h0⟩ | ⟨g, cap, cur, rfl, h2, h3, h4, h5, h6, h7⟩
  . subst h0
    obtain ⟨g, cap, w', hr, a1, a2, a3, _⟩ := run_append_lies (P := Tryz.prog) w sl ty 0 el ti _ sz bs T.u T.i T.z T.s T.b T.zs T.pos _ 0 xs hown ad m c news hl hnews h1 hm (by unfold maxLen; omega) hbd (Nat.zero_le _) _ rfl
    refine ⟨_, w', hr, a1, .inr ⟨g, cap, rfl, ?_, a2⟩⟩
    rcases a3 with a3 | a3
    . simp [Value.ownBlock] at a3
    . omega
  . by_cases hf : n + m <= cap
    . obtain ⟨w', hr, a1, a2⟩ := run_append_fits (P := Tryz.prog) w 0 sl ty el ti sz T.u T.i T.s g n cap xs hown ad m c news hl hnews h1 hf
      exact ⟨_, w', hr, a1, .inl ⟨g, cap, rfl, hf, rfl, a2⟩⟩
    . obtain ⟨v', w', hr, a1, a2⟩ := run_append_arg_grows (P := Tryz.prog) w sl ty el ti _ sz bs T.u T.i T.z T.s T.b T.zs T.pos ⟨g, 0, none⟩ n cap xs hown.1 (fun j u hj => hown.cells rfl j u hj) ad m c news hl hnews (by omega) (by unfold maxLen; omega) hbd
      obtain ⟨g', cap', rfl, hb, _⟩ := a1.form (by omega)
      exact ⟨_, w', hr, row_base a1 (Nat.zero_le _), .inr ⟨g', cap', rfl, hb, a2⟩⟩
theorem run_psh0 (T : Ty sl el ti z sz bs) (w : World) (ty : TypeId) (B : Nat) (v : Value) (n : Nat) (xs : List Value) (hown : w.ownsRow B el sz v n xs) (u : Value) (hu : (∃ a c, u = .slice a 0 c)) :
    (Builtin.append_ #[sl, sl] ty #[v, u]).run Tryz.prog w = .ok v w := by
  obtain ⟨a, c, rfl⟩ := hu
  rcases a with _ | a
  . exact run_append_owned_none (P := Tryz.prog) (w := w) B sl ty el ti sz T.u T.i _ _ _ hown
  . obtain ⟨ao, cp, rfl, hn, _⟩ := row_shape hown
    have hfc := run_firstCells_some (P := Tryz.prog) w ti.size 0 a 0 c [] (by simp) (by simp)
    rcases ao with _ | ao
    . obtain ⟨rfl, rfl⟩ := hn rfl
      simp [Builtin.append_, run_underlying T.u, sizeOf, typeInfo, T.i, Builtin.lenOf, hfc, storeCells]
    . simp [Builtin.append_, run_underlying T.u, sizeOf, typeInfo, T.i, Builtin.lenOf, hfc, storeCells]
      intro h
      omega
variable {w : World} {ops : Array Oper} {rest : List Oper} {o : Oper} {a : Act} {Q : Exit -> Act -> World -> Prop}
theorem pushG (T : Ty sl el ti z sz bs) (hgd : o.guard = none) (s x : Operand) (ho : o.op = .call { callee := .builtin .append, args := #[s, x], argTypes := #[sl, sl] })
    (v : Value) (n : Nat) (xs : List Value) (hs : a.eval s = v) (hown : w.ownsRow 0 el sz v n xs) (us : List Value) (hul : us.length = sz) (hu : ∀ u ∈ us, u.oneCell' = true) (hx : a.eval x = .slice (some ⟨w.heap.size, 0, none⟩) 1 1) (hn : n <= 100000000)
    (h : ∀ v' w', w'.ownsRow 0 el sz v' (n + 1) (xs ++ us) -> Psh w w' v n 1 v' -> wpList Tryz.prog ops Q rest (a.put o.dst v') w') : wpList Tryz.prog ops Q (o :: rest) a (w.alloc (.cells us.toArray el)) := by
  refine wpList_plain hgd fun K hK => ?_
  obtain ⟨v', w', hr, a1, a2⟩ := run_psh T (w.alloc (.cells us.toArray el)) o.type v n xs (World.ownsRow.alloc hown _) ⟨w.heap.size, 0, none⟩ 1 1 us (by omega) (World.news_of_block (cs := us.toArray) (t := el) (fr := (0, 0)) (heap_alloc_new w _)) hu (by omega) (by omega)
  unfold Oper.wp
  simp [execOp, ho, resolve, invoke, builtin, hs, hx, hr, Result.andThen]
  exact hK _ _ (h v' w' a1 (psh_trans (fun r => World.grownBy_alloc w _ r) a2))
theorem pushB (T : Ty sl el ti z sz bs) (hgd : o.guard = none) (s x : Operand) (ho : o.op = .call { callee := .builtin .append, args := #[s, x], argTypes := #[sl, sl] })
    (B : Nat) (v : Value) (n : Nat) (xs : List Value) (hs : a.eval s = v) (hown : w.ownsRow B el sz v n xs) (us : List Value) (hul : us.length = sz) (hu : ∀ u ∈ us, u.oneCell' = true) (hx : a.eval x = .slice (some ⟨w.heap.size, 0, none⟩) 1 1) (hn : n <= 100000000) (hB : B <= w.heap.size)
    (h : ∀ g cap w', w'.ownsRow B el sz (.slice (some ⟨g, 0, none⟩) (n + 1) cap) (n + 1) (xs ++ us) -> w.grownBy w' v.ownBlock -> (v.ownBlock = some g \/ w.heap.size <= g) -> wpList Tryz.prog ops Q rest (a.put o.dst (.slice (some ⟨g, 0, none⟩) (n + 1) cap)) w') : wpList Tryz.prog ops Q (o :: rest) a (w.alloc (.cells us.toArray el)) :=
  wpList_pushN hgd s x sl ho el ti z sz bs T.u T.i T.z T.s T.b T.zs T.pos T.le B v n xs hs hown us hul hu hx (by omega) hB h
theorem step_more {K : Act -> World -> Prop} {E : Prop} (T : Ty sl el ti z sz bs) (hgd : o.guard = none) (s x : Operand)
    (ho : o.op = .call { callee := .builtin .append, args := #[s, x], argTypes := #[sl, sl] }) (v : Value) (n : Nat) (xs : List Value) (hs : a.eval s = v) (hown : w.ownsRow 0 el sz v n xs) (ad : Addr) (m c : Nat) (news : List Value) (hx : a.eval x = .slice (some ad) m c) (hl : news.length = m * sz) (hnews : ∀ j u, news[j]? = some u -> w.cell? (ad.add j) = some u) (h1 : ∀ u ∈ news, u.oneCell' = true) (hm : 0 < m) (hn : n + m <= 1000000000)
    (h : ∀ g c w', w'.ownsRow 0 el sz (.slice (some ⟨g, 0, none⟩) (n + m) c) (n + m) (xs ++ news) -> Psh w w' v n m (.slice (some ⟨g, 0, none⟩) (n + m) c) -> K (a.put o.dst (.slice (some ⟨g, 0, none⟩) (n + m) c)) w') :
    if Region.wanted o (yielded ops a.tmps) = true then Oper.wp Tryz.prog o a w K Q else E := by
  have hw : Region.wanted o (yielded ops a.tmps) = true := by simp [Region.wanted, hgd]
  rw [if_pos hw]
  obtain ⟨v', w', hr, a1, a2⟩ := run_psh T w o.type v n xs hown ad m c news hl hnews h1 hm hn
  obtain ⟨g', c', rfl, _, _⟩ := a1.form (by omega)
  unfold Oper.wp
  simp [execOp, ho, resolve, invoke, builtin, hs, hx, hr, Result.andThen]
  exact h g' c' w' a1 a2
theorem step_copy {K : Act -> World -> Prop} {D : Prop} {xs : List Value} {n : Nat} {v : Value} {g0 : Nat} (T : Ty sl el ti z sz bs) (hgd : o.guard = none) (s x : Operand)
    (ho : o.op = .call { callee := .builtin .append, args := #[s, x], argTypes := #[sl, sl] }) (hs : a.eval s = .slice (some ⟨g0, 0, none⟩) 0 0) (B : Nat) (hown0 : w.ownsRow B el sz (.slice (some ⟨g0, 0, none⟩) 0 0) 0 []) (hrow : w.ownsRow 0 el sz v n xs) (h1c : ∀ u ∈ xs, u.oneCell' = true) (hx : a.eval x = v) (hl : n <= 1000000) (hB : B <= w.heap.size)
    (h : ∀ g c w', w'.ownsRow B el sz (.slice (some ⟨g, 0, none⟩) n c) n xs -> w.grownBy w' (some g0) -> (g0 = g \/ g = w.heap.size) -> K (a.put o.dst (.slice (some ⟨g, 0, none⟩) n c)) w') :
    if Region.wanted o (yielded ops a.tmps) = true then Oper.wp Tryz.prog o a w K Q else D := by
  by_cases h0 : n = 0
  . subst h0
    have hxs : xs = [] := List.length_eq_zero_iff.1 (by rw [hrow.1]; omega)
    subst hxs
    have hw : Region.wanted o (yielded ops a.tmps) = true := by simp [Region.wanted, hgd]
    rw [if_pos hw]
    obtain ⟨ao, cp, hdv, _⟩ := row_shape hrow
    have hrun := run_psh0 T w o.type B _ 0 [] hown0 v ⟨ao, cp, hdv⟩
    unfold Oper.wp
    simp [execOp, ho, resolve, invoke, builtin, hs, hx, hrun, Result.andThen]
    exact h g0 0 _ hown0 (gb_refl _ _) (.inl rfl)
  . obtain ⟨ao, cp, hdv, _, _, _, hpos⟩ := row_shape hrow
    obtain ⟨g, rfl⟩ := hpos (by omega)
    subst hdv
    refine step_append_lies _ hgd s x sl ho B el ti _ sz bs T.u T.i T.z T.s T.b T.zs T.pos (.slice (some ⟨g0, 0, none⟩) 0 0) 0 [] hs hown0 ⟨g, 0, none⟩ n cp xs hx hrow.1 (fun j u hj => ?_) h1c (by omega) (by unfold maxLen; omega) (mul_bd (by omega) T.le) hB w.heap.size rfl ?_
    . rw [Addr.add_mid, Nat.zero_add]; exact row_cell hrow j u hj
    . intro g2 cap2 w' h1 h2 h3 _
      have h4 := h g2 cap2 w' (by simpa using h1) (by simpa [Value.ownBlock] using h2) (h3.imp (fun e => by simpa [Value.ownBlock] using e) id)
      simpa using h4
theorem step_push {K : Act -> World -> Prop} {D : Prop} {w5 : World} (T : Ty sl el ti z sz bs) (hgd : o.guard = none) (s x : Operand) (ho : o.op = .call { callee := .builtin .append, args := #[s, x], argTypes := #[sl, sl] })
    (B : Nat) (v : Value) (n : Nat) (xs : List Value) (hs : a.eval s = v) (us : List Value) (hul : us.length = sz) (hu : ∀ u ∈ us, u.oneCell' = true) (hw : w = w5.alloc (.cells us.toArray el)) (hown : w5.ownsRow B el sz v n xs) (hx : a.eval x = .slice (some ⟨w5.heap.size, 0, none⟩) 1 1) (hn : n <= 100000000) (hB : B <= w5.heap.size)
    (h : ∀ g cap w', w'.ownsRow B el sz (.slice (some ⟨g, 0, none⟩) (n + 1) cap) (n + 1) (xs ++ us) -> w5.grownBy w' v.ownBlock -> (v.ownBlock = some g \/ w5.heap.size <= g) -> K (a.put o.dst (.slice (some ⟨g, 0, none⟩) (n + 1) cap)) w') :
    if Region.wanted o (yielded ops a.tmps) = true then Oper.wp Tryz.prog o a w K Q else D := by
  subst hw
  refine step_append_lies _ hgd s x sl ho B el ti _ sz bs T.u T.i T.z T.s T.b T.zs T.pos v n xs hs (World.ownsRow.alloc hown _) ⟨w5.heap.size, 0, none⟩ 1 1 us hx (by omega) (World.news_of_block (cs := us.toArray) (t := el) (fr := (0, 0)) (heap_alloc_new w5 _)) hu (by omega) (by unfold maxLen; omega) (mul_bd (by omega) T.le) (by simp; omega) (w5.heap.size + 1) (by simp) ?_
  intro g7 c7 w7 hown7 hgr7 hat7 hlt7
  exact h g7 c7 w7 hown7 (gb_trans (gb_alloc (gb_refl _ _) _) hgr7) (hat7.imp id (fun e => by omega))
end
end Go.Proofs.YtobegepebochkaaGreatDoor
