import Derived.Test.YtobegepebochkaaGreatDoorRPbn
import Derived.Test.YtobegepebochkaaGreatDoorRPbp
import Derived.Test.YtobegepebochkaaGreatDoorRPbq
import Derived.Test.YtobegepebochkaaGreatDoorRFi
import Derived.Test.YtobegepebochkaaGreatDoorRPbv
set_option linter.unusedVariables false
set_option linter.unusedSimpArgs false
set_option maxRecDepth 100000
set_option maxHeartbeats 16000000
namespace Go.Proofs.YtobegepebochkaaGreatDoor
open Go.RowKit Go.Maps
structure Chs (w : World) (vs : List Value) (cs : List Bs) : Prop where
  len : vs.length = cs.length
  all : ∀ (i : Nat) (u : Value) (l : Bs), vs[i]? = some u -> cs[i]? = some l -> Bw w u l
theorem Chs.snoc {w : World} {vs : List Value} {cs : List Bs} (h : Chs w vs cs) {u : Value} {l : Bs} (hb : Bw w u l) : Chs w (vs ++ [u]) (cs ++ [l]) := by
  refine ⟨by simp [h.len], fun i v x hv hx => ?_⟩
  by_cases hi : i < vs.length
  . rw [List.getElem?_append_left hi] at hv
    rw [List.getElem?_append_left (by have := h.len; omega)] at hx
    exact h.all i v x hv hx
  . rw [List.getElem?_append_right (by omega)] at hv
    rw [List.getElem?_append_right (by have := h.len; omega)] at hx
    have hv1 : i - vs.length = 0 := by
      have := (List.getElem?_eq_some_iff.1 hv).1
      simpa using this
    rw [hv1] at hv
    rw [show i - cs.length = 0 by have := h.len; omega] at hx
    simp at hv hx
    subst hv hx
    exact hb
theorem Bw.take {w : World} {a : Option Addr} {c : Nat} {l : Bs} (h : Bw w (.slice a l.length c) l) (m : Nat) (hm : m < l.length) : Bw w (.slice a m c) (l.take m) := by
  rcases h with h | ⟨rfl, _⟩
  . rcases h with ⟨rfl, _⟩ | ⟨g, o, c', e, h1, h2, h3, h4, h5⟩
    . simp at hm
    . injection e with e1 e2 e3
      subst e1 e3
      exact .inl (Ck.take (.inr ⟨g, o, c, rfl, h1, h2, h3, h4, h5⟩) m (by omega))
  . simp at hm
theorem Bw.cap {w : World} {a : Option Addr} {c : Nat} {l : Bs} (h : Bw w (.slice a l.length c) l) (hl : 0 < l.length) : l.length <= c /\ c <= 9223372036854775807 := by
  rcases h with h | ⟨rfl, _⟩
  . rcases h with ⟨rfl, _⟩ | ⟨g, o, c', e, h1, h2, _⟩
    . simp at hl
    . injection e with _ _ e3
      subst e3
      exact ⟨h1, h2⟩
  . simp at hl
def sumL (cs : List Bs) : Nat := (cs.map List.length).sum
theorem sumL_snoc (cs : List Bs) (l : Bs) : sumL (cs ++ [l]) = sumL cs + l.length := by simp [sumL]
def CutP (w0 w : World) (e : Ending) (w' : World) : Prop := ∃ a c vs cs, e = .returned (.slice a vs.length c) /\ w'.ownsRow w.heap.size 38 1 (.slice a vs.length c) vs.length vs /\ Chs w0 vs cs /\ vs.length <= 400 /\ sumL cs <= 12000 /\ w.grownBy w' none
theorem cut_44 {w0 w : World} {la : Option Addr} {lc : Nat} {ls : List Bs} (hr : Rb w0 la ls) (h0 : w0.grownBy w none) (hlen : ls.length <= 9223372036854775807) :
    Calls Tryz.prog 44 #[.slice la ls.length lc] w fun e w' => CutP w0 w e w' := by
  obtain ⟨tO, TO⟩ := ty_22
  generalize hn : ls.length = n at *
  go_enter Tryz.func44, Tryz.ntmps44
  go_wp2
  go_loopw [3, 4, 5, 6] (fun x3 x4 x5 x6 wr => ∃ (i : Nat) (a : Option Addr) (c : Nat) (vs : List Value) (cs : List Bs), i <= n /\ i <= 400 /\ x5 = .int .i64 i /\ x3 = .slice a vs.length c /\ x4 = .int .i64 (sumL cs) /\ wr.ownsRow w.heap.size 38 1 (.slice a vs.length c) vs.length vs /\ Chs w0 vs cs /\ vs.length = i /\ sumL cs <= 12000 /\ w.grownBy wr none) (fun _ _ x5 _ _ => n - (intOf x5).toNat)
  case atStart => exact ⟨0, none, 0, [], [], by omega, by omega, rfl, rfl, rfl, World.ownsRow_nil _ _ _ _, ⟨rfl, fun i u l hu => by simp at hu⟩, rfl, by simp [sumL], gb_refl _ _⟩
  case round =>
    obtain ⟨i, a, c, vs, cs, hi, hi4, rfl, rfl, rfl, hown, hC, hvl, hsum, hg⟩ := hrel
    by_cases hlt : i < n /\ i < 400
    . obtain ⟨l, hl⟩ : ∃ l, ls[i]? = some l := ⟨_, List.getElem?_eq_getElem (by omega)⟩
      obtain ⟨g, o, rfl, hel⟩ := hr (by omega)
      obtain ⟨u, hu, hbw, hlb⟩ := hel i _ hl
      have d1 : decide ((i : Int) < (n : Int)) = true := by simp; omega
      have d2 : decide ((i : Int) < 400) = true := by simp; omega
      have e1 : ((i : Int) < (n : Int)) := by omega
      have e2 : ((i : Int) < 400) := by omega
      have cu := gb_cellN (gb_trans h0 hg) hu
      obtain ⟨ua, un, uc, rfl, rfl⟩ := hbw.slice
      obtain ⟨S, hS⟩ : ∃ S, sumL cs = S := ⟨_, rfl⟩
      rw [hS] at hsum
      have hw1 : IntKind.i64.wrap (12000 - (S : Int)) = 12000 - (S : Int) := by rw [IntKind.wrap_i64]; omega
      have hsz := hg.size
      subst hvl
      have HO : Hid (wr.ownsRow w.heap.size 38 1 (.slice a vs.length c) vs.length vs) := hown
      have HS : Hid (sumL cs = S) := hS
      clear hown hS hel hl hu
      rw [HS.out]
      by_cases hbig : 12000 - S < l.length
      . obtain ⟨m, hm⟩ : ∃ m, 12000 - S = m := ⟨_, rfl⟩
        have hmi : 12000 - (S : Int) = (m : Int) := by omega
        have hcp := hbw.cap (by omega)
        have hb2 := hbw.take m (by omega)
        have e3 : ((m : Int) < (l.length : Int)) := by omega
        have e4 : ((m : Int) <= (uc : Int)) := by omega
        have hw2 : IntKind.i64.wrap ((S : Int) + (m : Int)) = ((S + m : Nat) : Int) := by rw [IntKind.wrap_i64]; omega
        have hmw : IntKind.i64.wrap (m : Int) = (m : Int) := by rw [IntKind.wrap_i64]; omega
        have HL : Hid (S + m = 12000) := by show S + m = 12000; omega
        have HM : Hid ((l.take m).length = m) := by show (l.take m).length = m; rw [List.length_take]; omega
        rw [hmi] at hw1
        clear hbig hm hcp hbw
        go_wp2_with (at_builtin; go_must (refine pushB TO rfl _ _ rfl w.heap.size _ vs.length _ (by rfl) HO.out [.slice ua m uc] rfl (by simp [Value.oneCell']) (by rfl) (by omega) hsz ?_); intro g7 c7 w7 h7 gg7 at7)
        have hg7 : w.grownBy w7 none := gb_far hg gg7 (fun k e => (row_ge HO.out e).1) (Nat.le_refl _)
        go_roundw
        case rel =>
          refine ⟨vs.length + 1, some ⟨g7, 0, none⟩, c7, vs ++ [.slice ua m uc], cs ++ [l.take m], by omega, by omega, by go_num, by simp, ?_, by simpa using h7, hC.snoc hb2, by simp, ?_, hg7⟩
          . rw [sumL_snoc, HS.out, HM.out]
            go_num
          . rw [sumL_snoc, HS.out, HM.out, HL.out]
            exact Nat.le_refl _
        case measure => simp [intOf]; omega
      . have e3 : ¬ (12000 - (S : Int) < (l.length : Int)) := by omega
        have hw2 : IntKind.i64.wrap ((S : Int) + (l.length : Int)) = ((S + l.length : Nat) : Int) := by rw [IntKind.wrap_i64]; omega
        have HL : Hid (S + l.length <= 12000) := by show S + l.length <= 12000; omega
        clear hbig
        go_wp2_with (at_builtin; go_must (refine pushB TO rfl _ _ rfl w.heap.size _ vs.length _ (by rfl) HO.out [.slice ua l.length uc] rfl (by simp [Value.oneCell']) (by rfl) (by omega) hsz ?_); intro g7 c7 w7 h7 gg7 at7)
        have hg7 : w.grownBy w7 none := gb_far hg gg7 (fun k e => (row_ge HO.out e).1) (Nat.le_refl _)
        go_roundw
        case rel =>
          refine ⟨vs.length + 1, some ⟨g7, 0, none⟩, c7, vs ++ [.slice ua l.length uc], cs ++ [l], by omega, by omega, by go_num, by simp, ?_, by simpa using h7, hC.snoc hbw, by simp, ?_, hg7⟩
          . rw [sumL_snoc, HS.out]
            go_num
          . rw [sumL_snoc, HS.out]
            exact HL.out
        case measure => simp [intOf]; omega
    . have hend : CutP w0 w (.returned (.slice a vs.length c)) wr := ⟨a, c, vs, cs, rfl, hown, hC, by omega, hsum, hg⟩
      have HE : Hid _ := hend
      clear hend hown hC hg
      by_cases hin : i < n
      . have d1 : decide ((i : Int) < (n : Int)) = true := by simp; omega
        have d2 : decide ((i : Int) < 400) = false := by simp; omega
        have e1 : ((i : Int) < (n : Int)) := by omega
        have e2 : ¬ ((i : Int) < 400) := by omega
        clear hlt hvl
        go_wp2
        go_ret
        exact HE.out
      . have d1 : decide ((i : Int) < (n : Int)) = false := by simp; omega
        have e1 : ¬ ((i : Int) < (n : Int)) := by omega
        clear hlt hvl
        go_wp2
        go_ret
        exact HE.out
end Go.Proofs.YtobegepebochkaaGreatDoor
namespace Go.Proofs.YtobegepebochkaaGreatDoor
open Go.RowKit Go.Maps
theorem fb_one (F : Fd) (b : UInt8) : (F.fb b).2.length <= 1 := by
  have ht : ∀ G : Fd, G.tell.2.length <= 1 := fun G => by simp [Fd.tell]
  have hs : ∀ G : Fd, (G.skip b).2.length <= 1 := fun G => by
    unfold Fd.skip
    repeat' split
    all_goals first
      | exact ht _
      | simp
  unfold Fd.fb
  repeat' split
  all_goals first
    | exact hs _
    | exact ht _
    | (unfold Fd.end1; split; exact ht _; simp)
    | simp
theorem run_one : ∀ (l : Bs) (F : Fd), (F.run l).2.length <= l.length
  | [], F => by simp [Fd.run]
  | b :: t, F => by
    have h1 := fb_one F b
    have h2 := run_one t (F.fb b).1
    simp only [Fd.run, List.length_append, List.length_cons]
    omega
theorem IsF.kq {w w' : World} {fb : Nat} {F : Fd} {kv : Value} {Q : Nat -> Prop} (h : IsF w fb F kv) (hd : F.s.data = []) (hk : Kp Q w w') (h1 : ∀ k, XF fb kv k -> ¬ Q k) (h2 : ∀ k, Pn w fb k -> ¬ Q k) : IsF w' fb F kv /\ ∀ k, Pn w' fb k ↔ Pn w fb k := by
  obtain ⟨hd', lf, ck, cd, cm, hx, ha, hb⟩ := h
  have bx := hk.box hx.box (h1 fb (.inl rfl))
  have st : ∀ {B e s m : Nat} {u : Value} {ys : List Value}, w.ownsRow B e s u m ys -> (∀ k, u.ownBlock = some k -> ¬ Q k) -> w'.ownsRow B e s u m ys := fun hr hq => row_same hr (fun k e => hk.block k (row_ge hr e).2 (hq k e))
  have hcd := hx.str.nd hd
  refine ⟨⟨hd', lf, ck, cd, cm, ⟨bx, ⟨st hx.str.keys (fun k e => h2 k ((pn_box hx.box).2 (.inl e))), st hx.str.data (fun k e => by rw [hcd] at e; simp [Value.ownBlock] at e), st hx.str.mt (fun k e => h2 k ((pn_box hx.box).2 (.inr e))), hx.str.ak, hx.str.ad, hx.str.am, hx.str.nd⟩, st hx.kept (fun k e => h1 k (.inr e))⟩, ha, hb⟩, fun k => ?_⟩
  rw [pn_box hx.box, pn_box bx]
theorem IsF.blk {w : World} {fb : Nat} {F : Fd} {kv : Value} (h : IsF w fb F kv) : (∃ c, w.heap[fb]? = some (.cells c 136 (0, 0))) /\ (∀ k, kv.ownBlock = some k -> ∃ c, w.heap[k]? = some (.cells c 5 (0, 0))) /\ ∀ k, Pn w fb k -> (∃ c, w.heap[k]? = some (.cells c 9 (0, 0))) \/ ∃ c, w.heap[k]? = some (.cells c 79 (0, 0)) := by
  obtain ⟨hd', lf, ck, cd, cm, hx, ha, hb⟩ := h
  refine ⟨⟨_, hx.box⟩, row_block hx.kept, fun k hk => ?_⟩
  rcases (pn_box hx.box).1 hk with e | e
  . exact .inl (row_block hx.str.keys k e)
  . exact .inr (row_block hx.str.mt k e)
theorem IsW.kq {w w' : World} {rb L : Nat} {raw : Bs} {rv : Value} {last : Nat} {quit : Bool} {Q : Nat -> Prop} (h : IsW w rb L raw rv last quit) (hk : Kp Q w w') (h1 : ¬ Q rb) (h2 : ∀ k, rv.ownBlock = some k -> ¬ Q k) : IsW w' rb L raw rv last quit :=
  ⟨hk.box h.box h1, row_same h.row (fun k e => hk.block k (row_ge h.row e).2 (h2 k e))⟩
theorem Lnt.kq {w w' : World} {lb B g c : Nat} {D : Bs} {Q : Nat -> Prop} (h : Lnt w lb B g c D) (hk : Kp Q w w') (h1 : ¬ Q lb) (h2 : ∀ k, B <= k -> k < w.heap.size -> ¬ Q k) : Lnt w' lb B g c D := by
  obtain ⟨gl, cl, gw, cw, u, cu, hb, hl, hw, hg, hu, n1, n2⟩ := h
  have st : ∀ {e s m : Nat} {v : Value} {ys : List Value}, w.ownsRow B e s v m ys -> w'.ownsRow B e s v m ys := fun hr => row_same hr (fun k e => hk.block k (row_ge hr e).2 (h2 k (row_ge hr e).1 (row_ge hr e).2))
  exact ⟨gl, cl, gw, cw, u, cu, hk.box hb h1, st hl, st hw, st hg, st hu, n1, n2⟩
theorem Lnt.g {w : World} {lb B g c : Nat} {D : Bs} (h : Lnt w lb B g c D) : w.ownsRow B 5 1 (.slice (some ⟨g, 0, none⟩) D.length c) D.length (D.map b8) := by
  obtain ⟨gl, cl, gw, cw, u, cu, hb, hl, hw, hg, hu, n1, n2⟩ := h
  exact hg
theorem Sd.kq {w w' : World} {B : Nat} {v : Value} {q : List Tld} {Q : Nat -> Prop} (h : Sd w B v q) (hk : Kp Q w w') (h1 : ∀ k, v.ownBlock = some k -> ¬ Q k) (h2 : ∀ k, Kb2 q k -> ¬ Q k) (h3 : ∀ k, Kb3 q k -> ¬ Q k) : Sd w' B v q := by
  have st : ∀ {B e s m : Nat} {u : Value} {ys : List Value}, w.ownsRow B e s u m ys -> (∀ k, u.ownBlock = some k -> ¬ Q k) -> w'.ownsRow B e s u m ys := fun hr hq => row_same hr (fun k e => hk.block k (row_ge hr e).2 (hq k e))
  exact ⟨st h.row h1, fun x hx => st (h.k x hx) (fun k e => h2 k ⟨x, hx, .inl e⟩), fun x hx => st (h.d x hx) (fun k e => h2 k ⟨x, hx, .inr e⟩), fun x hx => st (h.m x hx) (fun k e => h3 k ⟨x, hx, e⟩)⟩
structure Lx (w : World) (fb rb bb lb L : Nat) (gv : Value) (vs : List Value) (wr : World) (F : Fd) (kv : Value) (raw : Bs) (rv : Value) (last : Nat) (quit : Bool) (FT : Nat -> Prop) (J : Nat) : Prop where
  isf : IsF wr fb F kv
  ok : F.Ok
  sm : Sm F.s
  isw : IsW wr rb L raw rv last quit
  rl : Rl L raw last quit F
  bst : Bst wr bb FT J (fun _ => False)
  loan : Box wr 68 lb #[.slice none 0 0, .slice none 0 0, .slice none 0 0, .slice none 0 0]
  row : wr.ownsRow w.heap.size 38 1 gv vs.length vs
  gb : w.grownBy wr none
  ge : w.heap.size <= fb /\ w.heap.size <= rb /\ w.heap.size <= lb /\ (∀ k, kv.ownBlock = some k -> w.heap.size <= k) /\ (∀ k, rv.ownBlock = some k -> w.heap.size <= k)
  gp : ∀ k, Pn wr fb k -> w.heap.size <= k
  ft : ∀ k, FT k -> w.heap.size <= k /\ ¬ XF fb kv k /\ ¬ Pn wr fb k /\ k ≠ rb /\ rv.ownBlock ≠ some k /\ k ≠ lb /\ gv.ownBlock ≠ some k
  kr : ∀ k, kv.ownBlock = some k -> rv.ownBlock ≠ some k
section
variable {w wr : World} {fb rb bb lb L : Nat} {gv : Value} {vs : List Value} {F : Fd} {kv : Value} {raw : Bs} {rv : Value} {last : Nat} {quit : Bool} {FT : Nat -> Prop} {J : Nat}
theorem Lx.ap (h : Lx w fb rb bb lb L gv vs wr F kv raw rv last quit FT J) : fb ≠ rb /\ fb ≠ lb /\ rb ≠ lb /\ (∀ k, kv.ownBlock = some k -> k ≠ fb /\ k ≠ rb /\ k ≠ lb /\ k < wr.heap.size) /\ (∀ k, rv.ownBlock = some k -> k ≠ fb /\ k ≠ rb /\ k ≠ lb /\ k < wr.heap.size) /\ (∀ k, Pn wr fb k -> k ≠ fb /\ k ≠ rb /\ k ≠ lb /\ kv.ownBlock ≠ some k /\ rv.ownBlock ≠ some k /\ k < wr.heap.size) /\ fb < wr.heap.size /\ rb < wr.heap.size /\ lb < wr.heap.size /\ ∀ k, gv.ownBlock = some k -> k ≠ fb /\ k ≠ rb /\ k ≠ lb /\ kv.ownBlock ≠ some k /\ rv.ownBlock ≠ some k /\ k < wr.heap.size := by
  obtain ⟨⟨c1, b1⟩, b2, b3⟩ := h.isf.blk
  have b4 : wr.heap[rb]? = _ := h.isw.box
  have b5 := row_block h.isw.row
  have b6 : wr.heap[lb]? = _ := h.loan
  have b7 := row_block h.row
  refine ⟨ne_of_type b1 b4 (by decide), ne_of_type b1 b6 (by decide), ne_of_type b4 b6 (by decide), fun k e => ?_, fun k e => ?_, fun k e => ?_, lt_of_block b1, lt_of_block b4, lt_of_block b6, fun k e => ?_⟩
  . obtain ⟨c, hc⟩ := b2 k e
    exact ⟨ne_of_type hc b1 (by decide), ne_of_type hc b4 (by decide), ne_of_type hc b6 (by decide), lt_of_block hc⟩
  . obtain ⟨c, hc⟩ := b5 k e
    exact ⟨ne_of_type hc b1 (by decide), ne_of_type hc b4 (by decide), ne_of_type hc b6 (by decide), lt_of_block hc⟩
  . rcases b3 k e with ⟨c, hc⟩ | ⟨c, hc⟩
    . exact ⟨ne_of_type hc b1 (by decide), ne_of_type hc b4 (by decide), ne_of_type hc b6 (by decide), fun e2 => by obtain ⟨c2, h2⟩ := b2 k e2; exact ne_of_type hc h2 (by decide) rfl, fun e2 => by obtain ⟨c2, h2⟩ := b5 k e2; exact ne_of_type hc h2 (by decide) rfl, lt_of_block hc⟩
    . exact ⟨ne_of_type hc b1 (by decide), ne_of_type hc b4 (by decide), ne_of_type hc b6 (by decide), fun e2 => by obtain ⟨c2, h2⟩ := b2 k e2; exact ne_of_type hc h2 (by decide) rfl, fun e2 => by obtain ⟨c2, h2⟩ := b5 k e2; exact ne_of_type hc h2 (by decide) rfl, lt_of_block hc⟩
  . obtain ⟨c, hc⟩ := b7 k e
    exact ⟨ne_of_type hc b1 (by decide), ne_of_type hc b4 (by decide), ne_of_type hc b6 (by decide), fun e2 => by obtain ⟨c2, h2⟩ := b2 k e2; exact ne_of_type hc h2 (by decide) rfl, fun e2 => by obtain ⟨c2, h2⟩ := b5 k e2; exact ne_of_type hc h2 (by decide) rfl, lt_of_block hc⟩
end
end Go.Proofs.YtobegepebochkaaGreatDoor
