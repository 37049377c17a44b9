import Derived.Test.YtobegepebochkaaGreatDoorRYm
import Derived.Test.YtobegepebochkaaGreatDoorRPap
import Derived.Test.YtobegepebochkaaGreatDoorRPam
import Derived.Deep.RegionLaw
import Derived.Test.YtobegepebochkaaGreatDoorRPba
set_option linter.unusedVariables false
set_option linter.unusedSimpArgs false
set_option maxRecDepth 100000
set_option maxHeartbeats 16000000
namespace Go.Proofs.YtobegepebochkaaGreatDoor
open Go.RowKit Go.Maps
theorem rline_13 {w : World} (v : Value) (l : Bs) (hB : By w v l) : Calls Tryz.prog 13 #[v] w fun e w' => LnP l w e w' := by
  have h : Calls Tryz.prog 13 #[v] w fun e w' => DLn l w e w' := by
    by_cases hl : 2048 < l.length
    . exact rline_long v l hB hl
    . cases hs : spl [] l with
      | nil => exact rline_none v l hB hl (.inl hs)
      | cons x ws =>
        by_cases hv : vbS x = 0
        . exact rline_none v l hB hl (.inr ⟨x, ws, hs, hv⟩)
        . cases hr : rowS x with
          | none => exact absurd (by simp [vbS, hr]) hv
          | some r =>
            obtain ⟨i, hi, hx, _⟩ := row_of hr
            exact rline_read v l hB hl x ws hs i hi (by rw [<- hx]; exact vbS_yes hi)
  refine h.mono fun e w' he => ?_
  obtain ⟨h1, h2⟩ := he
  rw [dline_eq] at h1
  refine ⟨?_, h2⟩
  rcases h1 with ⟨c, n, kv, mv, ha, hb, hk⟩ | ⟨k, t, p, ha, hb⟩
  . exact .inl ⟨c, n, kv, mv, ha, hb, hk.k, hk.m⟩
  . exact .inr ⟨k, t, p, ha, hb⟩
end Go.Proofs.YtobegepebochkaaGreatDoor
namespace Go.Proofs.YtobegepebochkaaGreatDoor
open Go.RowKit Go.Maps
theorem Ck.conv {w : World} {X : Nat -> Prop} {v : Value} {l : Bs} (h : Ck w X v l) : (convert 38 9 v).run Tryz.prog w = .ok (sv l) w := by
  rcases h with ⟨rfl, rfl⟩ | ⟨g, o, c, rfl, _, _, _, _, h4⟩
  . exact run_convert_bytes_nil w 38 5 Tryz.underlying38 Tryz.underlying5 0 0 9 Tryz.underlying9
  . refine run_convert_bytes_back w 38 9 5 ⟨g, o, none⟩ c l Tryz.underlying38 Tryz.underlying5 Tryz.underlying9 ?_
    intro j hj
    rw [Addr.add_mid]
    exact h4 j l[j] (List.getElem?_eq_getElem hj)
theorem lent_ck {w : World} {B g c : Nat} {l m : Bs} (h : w.ownsRow B 5 1 (.slice (some ⟨g, 0, none⟩) (l.length + m.length) c) (l.length + m.length) ((l ++ m).map b8)) (X : Nat -> Prop) (hX : ¬ X g) : Ck w X (.slice (some ⟨g, 0, none⟩) l.length c) l := by
  obtain ⟨a0, c0, e0, -, h1, h2, -⟩ := row_shape h
  cases e0
  unfold maxLen at h2
  refine .inr ⟨g, 0, c, rfl, by omega, by omega, row_lt h g rfl, hX, fun i x hi => ?_⟩
  rw [Nat.zero_add]
  refine row_cell h i _ ?_
  have hlt : i < l.length := by
    by_cases hh : i < l.length
    . exact hh
    . rw [List.getElem?_eq_none (by omega)] at hi; cases hi
  rw [List.getElem?_map, List.getElem?_append_left hlt, hi]; rfl
end Go.Proofs.YtobegepebochkaaGreatDoor
namespace Go.Proofs.YtobegepebochkaaGreatDoor
open Go.RowKit Go.Maps
def d8 (k n : Nat) : UInt8 := UInt8.ofNat (k + n)
def dg (n : Nat) : Bs := if h : n < 10 then [d8 48 n] else dg (n / 10) ++ dg (n % 10)
def wd (n : Nat) : Bs := if h : n < 26 then [d8 65 n] else wd (n / 26 - 1) ++ [d8 65 (n % 26)]
theorem wd_lo (n : Nat) (h : n < 26) : wd n = [d8 65 n] := by rw [wd, dif_pos h]
theorem wd_hi (n : Nat) (h : ¬ n < 26) : wd n = wd (n / 26 - 1) ++ [d8 65 (n % 26)] := by rw [wd, dif_neg h]
theorem wd_len : ∀ n, (wd n).length <= n + 1 := by
  intro n
  induction n using Nat.strongRecOn with
  | _ n ih =>
    by_cases h : n < 26
    . rw [wd_lo n h]; simp
    . rw [wd_hi n h, List.length_append]
      have h1 := ih (n / 26 - 1) (by omega)
      simp
      omega
theorem d8_ck (w : World) (n : Nat) (h : n < 26) : Ck (w.alloc (.cells #[.int .u8 (65 + (n : Int))] 5)) (fun _ => False) (.slice (some ⟨w.heap.size, 0, none⟩) 1 1) [d8 65 n] := .inr ⟨w.heap.size, 0, 1, rfl, by simp, by omega, by simp, fun h => h, fun i x hx => by
        obtain ⟨rfl, rfl⟩ : i = 0 /\ d8 65 n = x := by
          rcases i with _ | i
          . simpa using hx
          . simp at hx
        have ht : (((d8 65 n).toNat : Nat) : Int) = 65 + (n : Int) := by
          have : (d8 65 n).toNat = 65 + n := by simp only [d8, UInt8.toNat_ofNat']; omega
          rw [this]; omega
        rw [b8, ht]
        exact World.news_of_block (cs := #[.int .u8 (65 + (n : Int))]) (t := 5) (fr := (0, 0)) (heap_alloc_new w _) 0 _ rfl⟩
theorem word_lo (n : Nat) (h : n < 26) (w : World) : Calls Tryz.prog 110 #[.int .i64 n] w fun e w' => e = .returned (sv (wd n)) /\ w.grownBy w' none := by
  rw [wd_lo n h]
  have hwr : IntKind.i64.wrap (65 + (n : Int)) = 65 + (n : Int) := by rw [IntKind.wrap_i64]; omega
  have hw8 : IntKind.u8.wrap (65 + (n : Int)) = 65 + (n : Int) := by rw [IntKind.wrap_u8]; omega
  have hg : decide ((n : Int) < 26) = true := by simp; omega
  have hcv := (d8_ck w n h).conv
  go_enter Tryz.func110, Tryz.ntmps110
  go_wp2_with fail
  go_ret
  exact ⟨rfl, gb_alloc (gb_refl _ none) _⟩
end Go.Proofs.YtobegepebochkaaGreatDoor
namespace Go.Proofs.YtobegepebochkaaGreatDoor
open Go.RowKit Go.Maps
theorem word_110 (n : Nat) : n < 1000000 -> ∀ w : World, Calls Tryz.prog 110 #[.int .i64 n] w fun e w' => e = .returned (sv (wd n)) /\ w.grownBy w' none := by
  induction n using Nat.strongRecOn with
  | _ n ih =>
    intro hn w
    by_cases h : n < 26
    . exact word_lo n h w
    . rw [wd_hi n h]
      have h1 := ih (n / 26 - 1) (by omega) (by omega)
      have hg : decide ((n : Int) < 26) = false := by simp; omega
      have hg2 : (26 : Int) <= (n : Int) := by omega
      have e1 : (n : Int).tdiv 26 = ((n / 26 : Nat) : Int) := by rw [Int.tdiv_eq_ediv_of_nonneg (by omega)]; rfl
      have e2 : (n : Int).tmod 26 = ((n % 26 : Nat) : Int) := by rw [Int.tmod_eq_emod_of_nonneg (by omega)]; rfl
      have b0 : 1 <= n / 26 := by omega
      have b1 : n / 26 < 1000000 := by omega
      have b2 : n % 26 < 26 := by omega
      clear ih
      generalize hqa : n / 26 = qa at h1 e1 b1 b0 ⊢
      generalize hqb : n % 26 = qb at e2 b2 ⊢
      clear hqa hqb
      obtain ⟨a, rfl⟩ : ∃ a, qa = a + 1 := ⟨qa - 1, by omega⟩
      rw [Nat.add_sub_cancel] at h1
      rw [Nat.add_sub_cancel]
      have l1 := wd_len a
      have e4 : IntKind.i64.wrap (qb : Int) = (qb : Int) := by rw [IntKind.wrap_i64]; omega
      have e6 : IntKind.i64.wrap (65 + (qb : Int)) = 65 + (qb : Int) := by rw [IntKind.wrap_i64]; omega
      have e7 : IntKind.u8.wrap (65 + (qb : Int)) = 65 + (qb : Int) := by rw [IntKind.wrap_u8]; omega
      have e5 : IntKind.i64.wrap ((a : Int) + 1) = (a : Int) + 1 := by rw [IntKind.wrap_i64]; omega
      have e9 : (a : Int) + 1 - 1 = (a : Int) := by omega
      have e3 : IntKind.i64.wrap (a : Int) = (a : Int) := by rw [IntKind.wrap_i64]; omega
      have e8 : IntKind.i64.wrap (IntKind.i64.wrap ((a : Int) + 1) - 1) = (a : Int) := by rw [e5, e9, e3]
      have ht : (((d8 65 qb).toNat : Nat) : Int) = 65 + (qb : Int) := by
        have : (d8 65 qb).toNat = 65 + qb := by simp only [d8, UInt8.toNat_ofNat']; omega
        rw [this]; omega
      have hU : ∀ W : World, W.cell? ⟨w.heap.size, 0, none⟩ = some (.int .u8 (65 + (qb : Int))) -> (convert 38 9 (.slice (some ⟨w.heap.size, 0, none⟩) 1 1)).run Tryz.prog W = .ok (sv [d8 65 qb]) W := fun W hW => by
        refine run_convert_bytes_back W 38 9 5 ⟨w.heap.size, 0, none⟩ 1 [d8 65 qb] Tryz.underlying38 Tryz.underlying5 Tryz.underlying9 ?_
        intro j hj
        have hj0 : j = 0 := by simpa using hj
        subst hj0
        rw [Addr.add_mid]
        show W.cell? ⟨w.heap.size, 0 + 0, none⟩ = some (.int .u8 ((d8 65 qb).toNat : Nat))
        rw [ht]
        exact hW
      clear ht
      have hcv : ∀ W : World, (convert 38 9 (.slice (some ⟨W.heap.size, 0, none⟩) 1 1)).run Tryz.prog (W.alloc (.cells #[.int .u8 (65 + (qb : Int))] 5)) = .ok (sv [d8 65 qb]) (W.alloc (.cells #[.int .u8 (65 + (qb : Int))] 5)) := fun W => (d8_ck W qb b2).conv
      have hcw : (convert 38 9 (.slice (some ⟨w.heap.size, 0, none⟩) 1 1)).run Tryz.prog (w.alloc (.cells #[.int .u8 (65 + (qb : Int))] 5)) = .ok (sv [d8 65 qb]) (w.alloc (.cells #[.int .u8 (65 + (qb : Int))] 5)) := hcv w
      have hcd : (convert 38 9 (.slice (some ⟨w.heap.size, 0, none⟩) 1 1)).run Tryz.prog (w.drew.alloc (.cells #[.int .u8 (65 + (qb : Int))] 5)) = .ok (sv [d8 65 qb]) (w.drew.alloc (.cells #[.int .u8 (65 + (qb : Int))] 5)) := hcv w.drew
      have hcd2 : (convert 38 9 (.slice (some ⟨w.heap.size, 0, none⟩) 1 1)).run Tryz.prog (w.alloc (.cells #[.int .u8 (65 + (qb : Int))] 5)).drew = .ok (sv [d8 65 qb]) (w.alloc (.cells #[.int .u8 (65 + (qb : Int))] 5)).drew := hcv w.drew
      have hsz : (9223372036854775807 < (wd a).length + 1) = False := by simp; omega
      have HC : Hid (∀ W : World, (convert 38 9 (.slice (some ⟨W.heap.size, 0, none⟩) 1 1)).run Tryz.prog (W.alloc (.cells #[.int .u8 (65 + (qb : Int))] 5)) = .ok (sv [d8 65 qb]) (W.alloc (.cells #[.int .u8 (65 + (qb : Int))] 5))) := hcv
      have HU : Hid _ := hU
      clear hcv hU
      have hcell : (w.alloc (.cells #[.int .u8 (65 + (qb : Int))] 5)).cell? ⟨w.heap.size, 0, none⟩ = some (.int .u8 (65 + (qb : Int))) := (Box.new w 5 #[.int .u8 (65 + (qb : Int))]).cell 0
      have HCE : Hid _ := hcell
      clear hcell
      go_enter Tryz.func110, Tryz.ntmps110
      go_wp2_with fail
      go_region_law ((go_simp; go_at_call 110; go_must (refine (h1 _).mono ?_; rintro e w1 ⟨rfl, g1⟩; have hca := HC.out w1; first | (have hcb := HU.out w1 (gb_cellN g1 HCE.out)) | skip)))
      all_goals
        go_wp2_with fail
        go_ret
        refine ⟨?_, by first | exact gb_alloc (gb_trans (gb_drew (gb_refl _ _)) g1) _ | exact gb_trans (gb_alloc (gb_drew (gb_refl _ _)) _) g1 | exact gb_trans (gb_drew (gb_alloc (gb_refl _ _) _)) g1⟩
        show Ending.returned (Value.string ((⟨(wd a).toArray⟩ : ByteArray) ++ ⟨[d8 65 qb].toArray⟩)) = Ending.returned (sv (wd a ++ [d8 65 qb]))
        rw [ba_app]
end Go.Proofs.YtobegepebochkaaGreatDoor
namespace Go.Proofs.YtobegepebochkaaGreatDoor
open Go.RowKit
def HsT (w : World) (a : Option Addr) (xs : List Bs) : Prop :=
  0 < xs.length -> ∃ g, a = some ⟨g, 0, none⟩ /\ ∀ k, k < xs.length -> w.cell? ⟨g, k, none⟩ = some (sv (xs.getD k []))
theorem HsT.of_row {w : World} {B n : Nat} {dv : Value} {xs : List Bs} (h : w.ownsRow B 9 1 dv n (xs.map sv)) : ∃ a c, dv = .slice a xs.length c /\ HsT w a xs := by
  have hn : xs.length = n := by have := h.1; simpa using this
  subst hn
  obtain ⟨ao, cp, hdv, _, _, _, hpos⟩ := row_shape h
  subst hdv
  refine ⟨ao, cp, rfl, fun h0 => ?_⟩
  obtain ⟨g, rfl⟩ := hpos h0
  refine ⟨g, rfl, fun i hi => ?_⟩
  exact row_cell h i _ (by simp [List.getD, hi])
theorem texts_82q {w : World} {a b : Option Addr} {xs : List Bs} (h1 : HsT w a xs) (h2 : HsT w b xs) (c d : Nat) (hn : xs.length < 100000000) :
    Calls Tryz.prog 82 #[.slice a xs.length c, .slice b xs.length d] w fun y w' => y = .returned (.bool true) /\ ∃ q, w' = w.drewN q := by
  go_enter Tryz.func82, Tryz.ntmps82
  go_wp2
  go_loopw [5] (fun v wr => ∃ k q : Nat, k <= xs.length /\ v = .int .i64 k /\ wr = w.drewN q) (fun v _ => xs.length - (intOf v).toNat)
  case atStart => exact ⟨0, 0, by omega, rfl, rfl⟩
  case round =>
    obtain ⟨k, q, hk, rfl, hg⟩ := hrel
    by_cases hlt : k < xs.length
    . obtain ⟨g1, rfl, hc1⟩ := h1 (by omega)
      obtain ⟨g2, rfl, hc2⟩ := h2 (by omega)
      have e1 : wr.cell? ⟨g1, k, none⟩ = some (sv (xs.getD k [])) := by rw [hg]; exact hc1 k hlt
      have e2 : wr.cell? ⟨g2, k, none⟩ = some (sv (xs.getD k [])) := by rw [hg]; exact hc2 k hlt
      have hib : (k : Int) < xs.length := by omega
      have HG : Hid (wr = w.drewN q) := hg
      generalize xs.getD k [] = z at *
      clear h1 h2 hc1 hc2 hg
      go_wp2
      go_quiet (fail)
      go_wp2
      exact ⟨⟨k + 1, q + nq, by omega, by go_num, by rw [HG.out, World.drewN_drewN]⟩, by simp [intOf]; omega⟩
    . obtain rfl : k = xs.length := by omega
      clear h1 h2
      have HG : Hid (wr = w.drewN q) := hg
      clear hg
      go_wp2
      go_ret
      exact ⟨rfl, q, HG.out⟩
theorem stands_66 {w : World} {bb : Nat} {b0 b1 b2 b3 t0 t1 t2 t3 s0 s1 s2 : Value} {n : Int} {Fb Ft : Nat -> Prop} {Kb Kt : Nat} {Vb Wb Vt Wt : Nat -> Value} {Nb Nt : Nat -> Nat} {Db Dt : Nat -> List Value} (h : Box w 31 bb (bkA b0 b1 b2 b3 t0 t1 t2 t3 s0 s1 s2 n)) (hb : Kd w Fb 38 5 1 b0 b1 Kb Kb Vb Wb Nb Db) (ht : Kd w Ft 36 9 1 t0 t1 Kt Kt Vt Wt Nt Dt)
    (hbl : ∀ i, i < Kb -> ∃ l : Bs, Db i = l.map b8) (htl : ∀ i, i < Kt -> ∃ ws : List Bs, Dt i = ws.map sv) (hKb : Kb < 10000000) (hKt : Kt < 10000000) :
    Calls Tryz.prog 66 #[.pointer (some ⟨bb, 0, none⟩)] w fun y w' => y = .returned (.bool true) /\ w.grownBy w' none := by
  obtain ⟨hao, hcp, hdh, _, _, _, hposh⟩ := row_shape hb.hr
  subst hdh
  obtain ⟨wao, wcp, hdw, _, _, _, hposw⟩ := row_shape hb.wr
  subst hdw
  obtain ⟨tao, tcp, hdt, _, _, _, hpost⟩ := row_shape ht.hr
  subst hdt
  obtain ⟨uao, ucp, hdu, _, _, _, hposu⟩ := row_shape ht.wr
  subst hdu
  go_enter Tryz.func66, Tryz.ntmps66
  go_wp2
  go_loopw [3] (fun v wy => ∃ i : Nat, i <= Kb /\ v = .int .i64 i /\ World.grownBy w wy none) (fun v _ => Kb - (intOf v).toNat)
  case atStart => exact ⟨0, by omega, rfl, gb_refl _ _⟩
  case round =>
    obtain ⟨i, hi, rfl, hg⟩ := hrel
    have hz := h.kept hg (by simp)
    have c0 : wr.cell? ⟨bb, 0, none⟩ = some (.slice hao Kb hcp) := hz.cell 0
    have c1 : wr.cell? ⟨bb, 1, none⟩ = some (.slice wao Kb wcp) := hz.cell 1
    by_cases hiK : i < Kb
    . obtain ⟨gh, rfl⟩ := hposh (by omega)
      obtain ⟨gw, rfl⟩ := hposw (by omega)
      have hbz := hb.kept0 hg
      obtain ⟨l, hl⟩ := hbl i hiK
      have hv := hbz.vs i hiK
      have hw := hbz.ws i hiK
      rw [hl] at hv hw
      have hlN : l.length = Nb i := by have := hv.1; simpa using this
      rw [<- hlN] at hv hw
      have k1 := ck_own (X := fun _ => False) hv (fun _ _ h => h)
      have k2 := ck_own (X := fun _ => False) hw (fun _ _ h => h)
      have d1 : wr.cell? ⟨gh, i, none⟩ = some (Vb i) := row_cell hbz.hr i _ (vsL_get _ hiK)
      have d2 : wr.cell? ⟨gw, i, none⟩ = some (Wb i) := row_cell hbz.wr i _ (vsL_get _ hiK)
      obtain ⟨a1, n1, v1, hV, rfl⟩ := k1.slice
      obtain ⟨a2, n2, v2, hW, rfl⟩ := k2.slice
      rw [hV] at d1 k1
      rw [hW] at d2 k2
      have q1 := fun q => Ck.conv (w := wr.drewN q) (show Ck (wr.drewN q) (fun _ => False) _ l from k1)
      have q2 := fun q => Ck.conv (w := wr.drewN q) (show Ck (wr.drewN q) (fun _ => False) _ l from k2)
      have hib : (i : Int) < Kb := by omega
      clear h hz hb ht k1 k2 hV hW hposh hposw hbz hv hw hpost hposu hbl htl hlN hl
      go_wp2
      go_quiet (fail)
      go_wp2
      exact ⟨⟨i + 1, by omega, by go_num, gb_drewN hg _⟩, by simp [intOf]; omega⟩
    . obtain rfl : i = Kb := by omega
      have c4 : wr.cell? ⟨bb, 4, none⟩ = some (.slice none 0 0) := hz.cell 4
      have HG : Hid (w.grownBy wr none) := hg
      clear hposh hposw hb hbl hg
      go_wp2
      go_loopw [4] (fun v wq => v = .int .i64 0 /\ wq = wr) (fun _ _ => 0)
      case atStart => exact ⟨rfl, rfl⟩
      case round =>
        obtain ⟨rfl, hwq⟩ := hrel
        subst hwq
        go_wp2
        clear c0 c1 c4
        go_loopw [5] (fun v wy => ∃ i : Nat, i <= Kt /\ v = .int .i64 i /\ World.grownBy w wy none) (fun v _ => Kt - (intOf v).toNat)
        case atStart => exact ⟨0, by omega, rfl, HG.out⟩
        case round =>
          obtain ⟨i, hi, rfl, hg⟩ := hrel
          clear hz HG
          have hz := h.kept hg (by simp)
          have c8 : wr.cell? ⟨bb, 8, none⟩ = some (.slice tao Kt tcp) := hz.cell 8
          have c9 : wr.cell? ⟨bb, 9, none⟩ = some (.slice uao Kt ucp) := hz.cell 9
          have c12 : wr.cell? ⟨bb, 12, none⟩ = some (.slice none 0 0) := hz.cell 12
          have c16 : wr.cell? ⟨bb, 16, none⟩ = some (.slice none 0 0) := hz.cell 16
          by_cases hiK : i < Kt
          . obtain ⟨gh, rfl⟩ := hpost (by omega)
            obtain ⟨gw, rfl⟩ := hposu (by omega)
            have htz := ht.kept0 hg
            obtain ⟨ws, hws⟩ := htl i hiK
            have hv := htz.vs i hiK
            have hw := htz.ws i hiK
            rw [hws] at hv hw
            have hlN : ws.length = Nt i := by have := hv.1; simpa using this
            obtain ⟨a1, k1, hV, hH1⟩ := HsT.of_row hv
            obtain ⟨a2, k2, hW, hH2⟩ := HsT.of_row hw
            have d1 : wr.cell? ⟨gh, i, none⟩ = some (.slice a1 ws.length k1) := by rw [<- hV]; exact row_cell htz.hr i _ (vsL_get _ hiK)
            have d2 : wr.cell? ⟨gw, i, none⟩ = some (.slice a2 ws.length k2) := by rw [<- hW]; exact row_cell htz.wr i _ (vsL_get _ hiK)
            have hdl := htz.dl i hiK
            have h35 := fun nq => texts_82q (w := wr.drewN nq) (show HsT (wr.drewN nq) a1 ws from hH1) (show HsT (wr.drewN nq) a2 ws from hH2) k1 k2 (by omega)
            have hib : (i : Int) < Kt := by omega
            clear h hz hH1 hH2 hV hW hpost hposu htz hv hw ht htl hlN
            generalize ws.length = dn at *
            go_wp2
            go_quiet ((first | (go_at_call 82; with_reducible exact Calls.quiet_of (h35 _))))
            go_wp2
            exact ⟨⟨i + 1, by omega, by go_num, gb_drewN hg _⟩, by simp [intOf]; omega⟩
          . obtain rfl : i = Kt := by omega
            clear h hz hpost hposu ht htl
            go_wp2
            go_loopw [6] (fun v wz => v = .int .i64 0 /\ wz = wr) (fun _ _ => 0)
            case atStart => exact ⟨rfl, rfl⟩
            case round =>
              obtain ⟨rfl, hwz⟩ := hrel
              subst hwz
              go_wp2
              go_loopw [7] (fun v wx => v = .int .i64 0 /\ wx = wr) (fun _ _ => 0)
              case atStart => exact ⟨rfl, rfl⟩
              case round =>
                obtain ⟨rfl, hwx⟩ := hrel
                subst hwx
                go_wp2
                go_ret
                exact ⟨rfl, hg⟩
end Go.Proofs.YtobegepebochkaaGreatDoor
