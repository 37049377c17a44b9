import Derived.Test.YtobegepebochkaaGreatDoorZr
import Derived.Deep.RegionLaw
import Derived.Test.YtobegepebochkaaGreatDoorZa
/-
  word of any number.
-/
namespace Go.Proofs.YtobegepebochkaaGreatDoor
open Go.RowKit Go.Maps
set_option linter.unusedVariables false
set_option linter.unusedSimpArgs false

set_option maxRecDepth 100000 in
set_option maxHeartbeats 4000000 in
theorem word_110 (n : Nat) : n < 1000000 → ∀ w : World, Calls Tryz.prog 110 #[.int .i64 n] w fun e w' => e = .returned (sv (wd n)) ∧ w.grownBy w' none := by
  induction n using Nat.strongRecOn with
  | _ n ih =>
    intro hn w
    by_cases h : n < 26
    · exact word_lo n h w
    · rw [wd_hi n h]
      have h1 := ih (n / 26 - 1) (by omega) (by omega)
      have hg : decide ((n : Int) < 26) = false := by simp; omega
      have hg2 : (26 : Int) ≤ (n : Int) := by omega
      have e1 : (n : Int).tdiv 26 = ((n / 26 : Nat) : Int) := by rw [Int.tdiv_eq_ediv_of_nonneg (by omega)]; rfl
      have e2 : (n : Int).tmod 26 = ((n % 26 : Nat) : Int) := by rw [Int.tmod_eq_emod_of_nonneg (by omega)]; rfl
      have b0 : 1 ≤ n / 26 := by omega
      have b1 : n / 26 < 1000000 := by omega
      have b2 : n % 26 < 26 := by omega
      clear ih
      generalize hqa : n / 26 = qa at h1 e1 b1 b0 ⊢
      generalize hqb : n % 26 = qb at e2 b2 ⊢
      clear hqa hqb
      obtain ⟨a, rfl⟩ : ∃ a, qa = a + 1 := ⟨qa - 1, by omega⟩
      rw [Nat.add_sub_cancel] at h1
      rw [Nat.add_sub_cancel]
      have l1 := wd_len a
      have e4 : IntKind.i64.wrap (qb : Int) = (qb : Int) := by rw [IntKind.wrap_i64]; omega
      have e6 : IntKind.i64.wrap (65 + (qb : Int)) = 65 + (qb : Int) := by rw [IntKind.wrap_i64]; omega
      have e7 : IntKind.u8.wrap (65 + (qb : Int)) = 65 + (qb : Int) := by rw [IntKind.wrap_u8]; omega
      have e5 : IntKind.i64.wrap ((a : Int) + 1) = (a : Int) + 1 := by rw [IntKind.wrap_i64]; omega
      have e9 : (a : Int) + 1 - 1 = (a : Int) := by omega
      have e3 : IntKind.i64.wrap (a : Int) = (a : Int) := by rw [IntKind.wrap_i64]; omega
      have e8 : IntKind.i64.wrap (IntKind.i64.wrap ((a : Int) + 1) - 1) = (a : Int) := by rw [e5, e9, e3]
      have ht : (((d8 65 qb).toNat : Nat) : Int) = 65 + (qb : Int) := by
        have : (d8 65 qb).toNat = 65 + qb := by simp only [d8, UInt8.toNat_ofNat']; omega
        rw [this]; omega
      have hU : ∀ W : World, W.cell? ⟨w.heap.size, 0, none⟩ = some (.int .u8 (65 + (qb : Int))) → (convert 38 9 (.slice (some ⟨w.heap.size, 0, none⟩) 1 1)).run Tryz.prog W = .ok (sv [d8 65 qb]) W := fun W hW => by
        refine run_convert_bytes_back W 38 9 5 ⟨w.heap.size, 0, none⟩ 1 [d8 65 qb] Tryz.underlying38 Tryz.underlying5 Tryz.underlying9 ?_
        intro j hj
        have hj0 : j = 0 := by simpa using hj
        subst hj0
        rw [Addr.add_mid]
        show W.cell? ⟨w.heap.size, 0 + 0, none⟩ = some (.int .u8 ((d8 65 qb).toNat : Nat))
        rw [ht]
        exact hW
      clear ht
      have hcv : ∀ W : World, (convert 38 9 (.slice (some ⟨W.heap.size, 0, none⟩) 1 1)).run Tryz.prog (W.alloc (.cells #[.int .u8 (65 + (qb : Int))] 5)) = .ok (sv [d8 65 qb]) (W.alloc (.cells #[.int .u8 (65 + (qb : Int))] 5)) := fun W => (d8_ck W qb b2).conv
      have hcw : (convert 38 9 (.slice (some ⟨w.heap.size, 0, none⟩) 1 1)).run Tryz.prog (w.alloc (.cells #[.int .u8 (65 + (qb : Int))] 5)) = .ok (sv [d8 65 qb]) (w.alloc (.cells #[.int .u8 (65 + (qb : Int))] 5)) := hcv w
      have hcd : (convert 38 9 (.slice (some ⟨w.heap.size, 0, none⟩) 1 1)).run Tryz.prog (w.drew.alloc (.cells #[.int .u8 (65 + (qb : Int))] 5)) = .ok (sv [d8 65 qb]) (w.drew.alloc (.cells #[.int .u8 (65 + (qb : Int))] 5)) := hcv w.drew
      have hcd2 : (convert 38 9 (.slice (some ⟨w.heap.size, 0, none⟩) 1 1)).run Tryz.prog (w.alloc (.cells #[.int .u8 (65 + (qb : Int))] 5)).drew = .ok (sv [d8 65 qb]) (w.alloc (.cells #[.int .u8 (65 + (qb : Int))] 5)).drew := hcv w.drew
      have hsz : (9223372036854775807 < (wd a).length + 1) = False := by simp; omega
      have HC : Hid (∀ W : World, (convert 38 9 (.slice (some ⟨W.heap.size, 0, none⟩) 1 1)).run Tryz.prog (W.alloc (.cells #[.int .u8 (65 + (qb : Int))] 5)) = .ok (sv [d8 65 qb]) (W.alloc (.cells #[.int .u8 (65 + (qb : Int))] 5))) := hcv
      have HU : Hid _ := hU
      clear hcv hU
      have hcell : (w.alloc (.cells #[.int .u8 (65 + (qb : Int))] 5)).cell? ⟨w.heap.size, 0, none⟩ = some (.int .u8 (65 + (qb : Int))) := (Box.new w 5 #[.int .u8 (65 + (qb : Int))]).cell 0
      have HCE : Hid _ := hcell
      clear hcell
      go_enter Tryz.func110, Tryz.ntmps110
      go_wp2_with fail
      go_region_law ((go_simp; go_at_call 110; go_must (refine (h1 _).mono ?_; rintro e w1 ⟨rfl, g1⟩; have hca := HC.out w1; first | (have hcb := HU.out w1 (gb_cellN g1 HCE.out)) | skip)))
      all_goals
        go_wp2_with fail
        go_ret
        refine ⟨?_, by first | exact gb_alloc (gb_trans (gb_drew (gb_refl _ _)) g1) _ | exact gb_trans (gb_alloc (gb_drew (gb_refl _ _)) _) g1 | exact gb_trans (gb_drew (gb_alloc (gb_refl _ _) _)) g1⟩
        show Ending.returned (Value.string ((⟨(wd a).toArray⟩ : ByteArray) ++ ⟨[d8 65 qb].toArray⟩)) = Ending.returned (sv (wd a ++ [d8 65 qb]))
        rw [ba_app]
end Go.Proofs.YtobegepebochkaaGreatDoor
/-
  A Book of lists of bytes and of lists of texts: Stands.
-/
namespace Go.Proofs.YtobegepebochkaaGreatDoor
open Go.RowKit
set_option linter.unusedVariables false
set_option linter.unusedSimpArgs false

/-- Texts at a place. -/
def HsT (w : World) (a : Option Addr) (xs : List Bs) : Prop :=
  0 < xs.length → ∃ g, a = some ⟨g, 0, none⟩ ∧ ∀ k, k < xs.length → w.cell? ⟨g, k, none⟩ = some (sv (xs.getD k []))
theorem HsT.of_row {w : World} {B n : Nat} {dv : Value} {xs : List Bs} (h : w.ownsRow B 9 1 dv n (xs.map sv)) : ∃ a c, dv = .slice a xs.length c ∧ HsT w a xs := by
  have hn : xs.length = n := by have := h.1; simpa using this
  subst hn
  obtain ⟨ao, cp, hdv, _, _, _, hpos⟩ := row_shape h
  subst hdv
  refine ⟨ao, cp, rfl, fun h0 => ?_⟩
  obtain ⟨g, rfl⟩ := hpos h0
  refine ⟨g, rfl, fun i hi => ?_⟩
  exact row_cell h i _ (by simp [List.getD, hi])

set_option maxRecDepth 100000 in
set_option maxHeartbeats 4000000 in
theorem texts_82q {w : World} {a b : Option Addr} {xs : List Bs} (h1 : HsT w a xs) (h2 : HsT w b xs) (c d : Nat) (hn : xs.length < 100000000) :
    Calls Tryz.prog 82 #[.slice a xs.length c, .slice b xs.length d] w fun y w' => y = .returned (.bool true) ∧ ∃ q, w' = w.drewN q := by
  go_enter Tryz.func82, Tryz.ntmps82
  go_wp2
  go_loopw [5] (fun v wr => ∃ k q : Nat, k ≤ xs.length ∧ v = .int .i64 k ∧ wr = w.drewN q) (fun v _ => xs.length - (intOf v).toNat)
  case atStart => exact ⟨0, 0, by omega, rfl, rfl⟩
  case round =>
    obtain ⟨k, q, hk, rfl, hg⟩ := hrel
    by_cases hlt : k < xs.length
    · obtain ⟨g1, rfl, hc1⟩ := h1 (by omega)
      obtain ⟨g2, rfl, hc2⟩ := h2 (by omega)
      have e1 : wr.cell? ⟨g1, k, none⟩ = some (sv (xs.getD k [])) := by rw [hg]; exact hc1 k hlt
      have e2 : wr.cell? ⟨g2, k, none⟩ = some (sv (xs.getD k [])) := by rw [hg]; exact hc2 k hlt
      have hib : (k : Int) < xs.length := by omega
      have HG : Hid (wr = w.drewN q) := hg
      generalize xs.getD k [] = z at *
      clear h1 h2 hc1 hc2 hg
      go_wp2
      go_quiet (fail)
      go_wp2
      exact ⟨⟨k + 1, q + nq, by omega, by go_num, by rw [HG.out, World.drewN_drewN]⟩, by simp [intOf]; omega⟩
    · obtain rfl : k = xs.length := by omega
      clear h1 h2
      have HG : Hid (wr = w.drewN q) := hg
      clear hg
      go_wp2
      go_ret
      exact ⟨rfl, q, HG.out⟩

set_option maxRecDepth 100000 in
set_option maxHeartbeats 8000000 in
theorem stands_66 {w : World} {bb : Nat} {b0 b1 b2 b3 t0 t1 t2 t3 s0 s1 s2 : Value} {n : Int} {Fb Ft : Nat → Prop} {Kb Kt : Nat} {Vb Wb Vt Wt : Nat → Value} {Nb Nt : Nat → Nat} {Db Dt : Nat → List Value} (h : Box w 31 bb (bkA b0 b1 b2 b3 t0 t1 t2 t3 s0 s1 s2 n)) (hb : Kd w Fb 38 5 1 b0 b1 Kb Kb Vb Wb Nb Db) (ht : Kd w Ft 36 9 1 t0 t1 Kt Kt Vt Wt Nt Dt)
    (hbl : ∀ i, i < Kb → ∃ l : Bs, Db i = l.map b8) (htl : ∀ i, i < Kt → ∃ ws : List Bs, Dt i = ws.map sv) (hKb : Kb < 10000000) (hKt : Kt < 10000000) :
    Calls Tryz.prog 66 #[.pointer (some ⟨bb, 0, none⟩)] w fun y w' => y = .returned (.bool true) ∧ w.grownBy w' none := by
  obtain ⟨hao, hcp, hdh, _, _, _, hposh⟩ := row_shape hb.hr
  subst hdh
  obtain ⟨wao, wcp, hdw, _, _, _, hposw⟩ := row_shape hb.wr
  subst hdw
  obtain ⟨tao, tcp, hdt, _, _, _, hpost⟩ := row_shape ht.hr
  subst hdt
  obtain ⟨uao, ucp, hdu, _, _, _, hposu⟩ := row_shape ht.wr
  subst hdu
  go_enter Tryz.func66, Tryz.ntmps66
  go_wp2
  go_loopw [3] (fun v wy => ∃ i : Nat, i ≤ Kb ∧ v = .int .i64 i ∧ World.grownBy w wy none) (fun v _ => Kb - (intOf v).toNat)
  case atStart => exact ⟨0, by omega, rfl, gb_refl _ _⟩
  case round =>
    obtain ⟨i, hi, rfl, hg⟩ := hrel
    have hz := h.kept hg (by simp)
    have c0 : wr.cell? ⟨bb, 0, none⟩ = some (.slice hao Kb hcp) := hz.cell 0
    have c1 : wr.cell? ⟨bb, 1, none⟩ = some (.slice wao Kb wcp) := hz.cell 1
    by_cases hiK : i < Kb
    · obtain ⟨gh, rfl⟩ := hposh (by omega)
      obtain ⟨gw, rfl⟩ := hposw (by omega)
      have hbz := hb.kept0 hg
      obtain ⟨l, hl⟩ := hbl i hiK
      have hv := hbz.vs i hiK
      have hw := hbz.ws i hiK
      rw [hl] at hv hw
      have hlN : l.length = Nb i := by have := hv.1; simpa using this
      rw [← hlN] at hv hw
      have k1 := ck_own (X := fun _ => False) hv (fun _ _ h => h)
      have k2 := ck_own (X := fun _ => False) hw (fun _ _ h => h)
      have d1 : wr.cell? ⟨gh, i, none⟩ = some (Vb i) := row_cell hbz.hr i _ (vsL_get _ hiK)
      have d2 : wr.cell? ⟨gw, i, none⟩ = some (Wb i) := row_cell hbz.wr i _ (vsL_get _ hiK)
      obtain ⟨a1, n1, v1, hV, rfl⟩ := k1.slice
      obtain ⟨a2, n2, v2, hW, rfl⟩ := k2.slice
      rw [hV] at d1 k1
      rw [hW] at d2 k2
      have q1 := fun q => Ck.conv (w := wr.drewN q) (show Ck (wr.drewN q) (fun _ => False) _ l from k1)
      have q2 := fun q => Ck.conv (w := wr.drewN q) (show Ck (wr.drewN q) (fun _ => False) _ l from k2)
      have hib : (i : Int) < Kb := by omega
      clear h hz hb ht k1 k2 hV hW hposh hposw hbz hv hw hpost hposu hbl htl hlN hl
      go_wp2
      go_quiet (fail)
      go_wp2
      exact ⟨⟨i + 1, by omega, by go_num, gb_drewN hg _⟩, by simp [intOf]; omega⟩
    · obtain rfl : i = Kb := by omega
      have c4 : wr.cell? ⟨bb, 4, none⟩ = some (.slice none 0 0) := hz.cell 4
      have HG : Hid (w.grownBy wr none) := hg
      clear hposh hposw hb hbl hg
      go_wp2
      go_loopw [4] (fun v wq => v = .int .i64 0 ∧ wq = wr) (fun _ _ => 0)
      case atStart => exact ⟨rfl, rfl⟩
      case round =>
        obtain ⟨rfl, hwq⟩ := hrel
        subst hwq
        go_wp2
        clear c0 c1 c4
        go_loopw [5] (fun v wy => ∃ i : Nat, i ≤ Kt ∧ v = .int .i64 i ∧ World.grownBy w wy none) (fun v _ => Kt - (intOf v).toNat)
        case atStart => exact ⟨0, by omega, rfl, HG.out⟩
        case round =>
          obtain ⟨i, hi, rfl, hg⟩ := hrel
          clear hz HG
          have hz := h.kept hg (by simp)
          have c8 : wr.cell? ⟨bb, 8, none⟩ = some (.slice tao Kt tcp) := hz.cell 8
          have c9 : wr.cell? ⟨bb, 9, none⟩ = some (.slice uao Kt ucp) := hz.cell 9
          have c12 : wr.cell? ⟨bb, 12, none⟩ = some (.slice none 0 0) := hz.cell 12
          have c16 : wr.cell? ⟨bb, 16, none⟩ = some (.slice none 0 0) := hz.cell 16
          by_cases hiK : i < Kt
          · obtain ⟨gh, rfl⟩ := hpost (by omega)
            obtain ⟨gw, rfl⟩ := hposu (by omega)
            have htz := ht.kept0 hg
            obtain ⟨ws, hws⟩ := htl i hiK
            have hv := htz.vs i hiK
            have hw := htz.ws i hiK
            rw [hws] at hv hw
            have hlN : ws.length = Nt i := by have := hv.1; simpa using this
            obtain ⟨a1, k1, hV, hH1⟩ := HsT.of_row hv
            obtain ⟨a2, k2, hW, hH2⟩ := HsT.of_row hw
            have d1 : wr.cell? ⟨gh, i, none⟩ = some (.slice a1 ws.length k1) := by rw [← hV]; exact row_cell htz.hr i _ (vsL_get _ hiK)
            have d2 : wr.cell? ⟨gw, i, none⟩ = some (.slice a2 ws.length k2) := by rw [← hW]; exact row_cell htz.wr i _ (vsL_get _ hiK)
            have hdl := htz.dl i hiK
            have h35 := fun nq => texts_82q (w := wr.drewN nq) (show HsT (wr.drewN nq) a1 ws from hH1) (show HsT (wr.drewN nq) a2 ws from hH2) k1 k2 (by omega)
            have hib : (i : Int) < Kt := by omega
            clear h hz hH1 hH2 hV hW hpost hposu htz hv hw ht htl hlN
            generalize ws.length = dn at *
            go_wp2
            go_quiet ((first | (go_at_call 82; with_reducible exact Calls.quiet_of (h35 _))))
            go_wp2
            exact ⟨⟨i + 1, by omega, by go_num, gb_drewN hg _⟩, by simp [intOf]; omega⟩
          · obtain rfl : i = Kt := by omega
            clear h hz hpost hposu ht htl
            go_wp2
            go_loopw [6] (fun v wz => v = .int .i64 0 ∧ wz = wr) (fun _ _ => 0)
            case atStart => exact ⟨rfl, rfl⟩
            case round =>
              obtain ⟨rfl, hwz⟩ := hrel
              subst hwz
              go_wp2
              go_loopw [7] (fun v wx => v = .int .i64 0 ∧ wx = wr) (fun _ _ => 0)
              case atStart => exact ⟨rfl, rfl⟩
              case round =>
                obtain ⟨rfl, hwx⟩ := hrel
                subst hwx
                go_wp2
                go_ret
                exact ⟨rfl, hg⟩
end Go.Proofs.YtobegepebochkaaGreatDoor
