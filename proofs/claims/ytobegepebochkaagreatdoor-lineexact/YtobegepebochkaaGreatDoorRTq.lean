import Derived.Test.YtobegepebochkaaGreatDoorRPao
import Derived.Test.YtobegepebochkaaGreatDoorRPar
set_option linter.unusedVariables false
set_option linter.unusedSimpArgs false
set_option maxRecDepth 100000
set_option maxHeartbeats 16000000
namespace Go.Proofs.YtobegepebochkaaGreatDoor
open Go.RowKit Go.Maps
def LnC (q : Bs) (c : Cmd) (n k : Int) (t : Bs) (p : Int) : Prop := (lineS (trim q) = .inl (c, n) /\ k = 0 /\ t = [] /\ p = 0) \/ (lineS (trim q) = .inr (k, t, p) /\ c = cmd0 0 false /\ n = -1)
def RdX (w1 : World) (q : Bs) (v3 v4 v5 : Value) (wc : World) : Prop :=
  ∃ b3 b5 c n ka kn kc ma mn mc k t p, v3 = .pointer (some ⟨b3, 0, none⟩) /\ v4 = .int .i64 n /\ v5 = .pointer (some ⟨b5, 0, none⟩) /\ w1.heap.size <= b3 /\ w1.heap.size <= b5 /\ w1.grownBy wc none /\
    Box wc 41 b3 (cmA c (.slice ka kn kc) (.slice ma mn mc)) /\ Box wc 43 b5 #[.int .i64 k, sv t, .int .i64 p] /\ wc.ownsRow w1.heap.size 9 1 (.slice ka kn kc) c.keys.length (c.keys.map sv) /\ wc.ownsRow w1.heap.size 79 3 (.slice ma mn mc) c.mt.length (fcs c.mt) /\ LnC q c n k t p
theorem line_both {w : World} (hE : Er w) {v : Value} {q : Bs} (hB : By w v (trim q)) :
    Calls Tryz.prog 15 #[v] w fun e w' => ∃ c n ka kn kc ma mn mc k t p, e = .returned (.tuple #[.agg (cmA c (.slice ka kn kc) (.slice ma mn mc)), .int .i64 n, .agg #[.int .i64 k, sv t, .int .i64 p]]) /\ w'.ownsRow w.heap.size 9 1 (.slice ka kn kc) c.keys.length (c.keys.map sv) /\ w'.ownsRow w.heap.size 79 3 (.slice ma mn mc) c.mt.length (fcs c.mt) /\ w.grownBy w' none /\ LnC q c n k t p := by
  refine (Line_6 hE v _ hB).mono ?_
  rintro e w' ⟨hL, hg⟩
  rcases hL with ⟨c, n, kv, mv, hl, rfl, h1, h2⟩ | ⟨k, t, p, hl, rfl⟩
  . obtain ⟨ka, kc, rfl, -, -, -, -⟩ := row_shape h1
    obtain ⟨ma, mc, rfl, -, -, -, -⟩ := row_shape h2
    exact ⟨c, n, ka, _, kc, ma, _, mc, 0, [], 0, rfl, h1, h2, hg, .inl ⟨hl, rfl, rfl, rfl⟩⟩
  . exact ⟨cmd0 0 false, -1, none, 0, 0, none, 0, 0, k, t, p, rfl, World.ownsRow_nil _ _ _ _, World.ownsRow_nil _ _ _ _, hg, .inr ⟨hl, rfl, rfl⟩⟩
theorem rd_ok {G : Fd} {q : Bs} {c : Cmd} {n : Int} (hq : G.kept = q ++ [10]) (hl : lineS (trim q) = .inl (c, n)) : G.rd = if n < 0 then ({ G with head := G.kept.length, s := stpC c false }, true) else if (G.limit : Int) < n then (G.pass (stpC c true) n.toNat, false) else ({ G with head := G.kept.length, s := stpC c false }.await n.toNat, false) := by
  have e : G.kept.dropLast = q := by rw [hq]; simp
  unfold Fd.rd
  rw [e, hl]
theorem rd_no {G : Fd} {q : Bs} {k : Int} {t : Bs} {p : Int} (hq : G.kept = q ++ [10]) (hl : lineS (trim q) = .inr (k, t, p)) : G.rd = if p < 0 \/ (G.limit : Int) < p then ({ G with head := G.kept.length, s := stpW k t p }, true) else (G.pass (stpW k t p) p.toNat, false) := by
  have e : G.kept.dropLast = q := by rw [hq]; simp
  unfold Fd.rd
  rw [e, hl]
theorem rd_done {w W : World} {fb g n0 cp B : Nat} {G F' : Fd} {kv' ck cd cm : Value} {hd lf hd' lf' : Int} {ka ma : Option Addr} {kn kc mn mc : Nat} {wh : Bool} (hx : IsFx w fb G (.slice (some ⟨g, 0, none⟩) n0 cp) hd lf ck cd cm) (hG : w.grownBy W (some fb)) (hb : Box W 136 fb (fdA fb F' kv' hd' lf' (.slice ka kn kc) (.slice none 0 0) (.slice ma mn mc)))
    (r1 : W.ownsRow B 9 1 (.slice ka kn kc) F'.s.cmd.keys.length (F'.s.cmd.keys.map sv)) (r2 : W.ownsRow B 79 3 (.slice ma mn mc) F'.s.cmd.mt.length (fcs F'.s.cmd.mt)) (hB : w.heap.size <= B) (hsd : F'.s.data = [])
    (hkp : (kv' = .slice (some ⟨g, 0, none⟩) n0 cp /\ F'.kept = G.kept) \/ (kv' = .slice none 0 0 /\ F'.kept = [])) (hF : G.rd = (F', wh)) (h1 : F'.st = 1 \/ F'.st = 2 \/ F'.st = 3 -> hd' = (F'.head : Int)) (h2 : F'.st = 1 \/ F'.st = 4 -> lf' = (F'.left : Int)) : RdF G w fb (.slice (some ⟨g, 0, none⟩) n0 cp) (.returned (.bool wh)) W := by
  have hfb := hx.box.lt
  have hg := row_lt hx.kept g rfl
  have hX : ∀ k, B <= k -> ¬ XF fb kv' k := by
    rintro k hk (rfl | h)
    . omega
    . rcases hkp with ⟨rfl, -⟩ | ⟨rfl, -⟩
      . simp [Value.ownBlock] at h
        omega
      . simp [Value.ownBlock] at h
  refine ⟨kv', by rw [hF], ?_, gb_kp hG, fun k hk => ?_, fun k hk => .inr ?_⟩
  . rw [hF]
    refine ⟨hd', lf', _, _, _, ⟨hb, ⟨row_base r1 (Nat.zero_le _), by rw [hsd]; exact World.ownsRow_nil _ _ _ _, row_base r2 (Nat.zero_le _), fun k hk => hX k (World.ownsRow.lt r1 k hk).1, fun k hk => by simp [Value.ownBlock] at hk, fun k hk => hX k (World.ownsRow.lt r2 k hk).1, fun _ => rfl⟩, ?_⟩, h1, h2⟩
    rcases hkp with ⟨rfl, e⟩ | ⟨rfl, e⟩
    . rw [e]
      exact row_kept hx.kept hG (row_box hx.kept hx.box (by omega))
    . rw [e]; exact World.ownsRow_nil _ _ _ _
  . rcases hkp with ⟨rfl, -⟩ | ⟨rfl, -⟩
    . exact hk
    . simp [Value.ownBlock] at hk
  . rcases (pn_box hb).1 hk with h | h
    . exact Nat.le_trans hB (World.ownsRow.lt r1 k h).1
    . exact Nat.le_trans hB (World.ownsRow.lt r2 k h).1
theorem er_box {w : World} {fb : Nat} {G : Fd} {kv ck cd cm : Value} {hd lf : Int} (hE : Er w) (hb : Box w 136 fb (fdA fb G kv hd lf ck cd cm)) : fb ≠ 2 /\ fb ≠ 3 := by
  obtain ⟨⟨a, b, e1⟩, c, d, e2⟩ := hE
  have c0 : w.cell? ⟨fb, 0, none⟩ = some (.int .i64 G.limit) := hb.cell 0
  constructor
  . rintro rfl
    rw [e1] at c0
    injection c0 with c0
    cases c0
  . rintro rfl
    rw [e2] at c0
    injection c0 with c0
    cases c0
end Go.Proofs.YtobegepebochkaaGreatDoor
