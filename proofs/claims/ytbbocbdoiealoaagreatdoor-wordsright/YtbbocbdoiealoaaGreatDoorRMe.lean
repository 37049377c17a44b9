import Derived.Test.YtbbocbdoiealoaaGreatDoorRMd
set_option linter.unusedVariables false
set_option linter.unusedSimpArgs false
namespace Go.Proofs.YtbbocbdoiealoaaGreatDoor
open Go.RowKit Go.Shelf Go.Maps
attribute [local go_sem] Oper.semAt_some
theorem wants_in : ∀ i, i < 24 → ∀ a ∈ (rwN i).wants, a ∈ ([75, 70, 84, 78, 67, 68, 86] : Bs) := by decide
theorem may_in : ∀ i, i < 24 → ∀ a ∈ (rwN i).may, a ∈ ([75, 48, 76, 87, 77] : Bs) := by decide
theorem wants_few : ∀ i, i < 24 → (rwN i).wants.length ≤ 5 ∧ (rwN i).may.length ≤ 1 := by decide
theorem must_few (c : Cmd) (n : Nat) (a : UInt8) : (mustW c n a).length ≤ c.keys.length + 1 := by
  unfold mustW
  repeat' split
  all_goals simp
theorem might_few (c : Cmd) (a : UInt8) : (mightW c a).length ≤ c.mt.length + 1 := by
  unfold mightW
  repeat' split
  all_goals simp
theorem flat_few (f : UInt8 → List Bs) (m : Nat) (hf : ∀ a, (f a).length ≤ m) : ∀ l : Bs, (l.flatMap f).length ≤ l.length * m
  | [] => by simp
  | a :: l => by
    rw [List.flatMap_cons, List.length_append, List.length_cons, Nat.add_mul]
    have := hf a
    have := flat_few f m hf l
    omega
theorem flat_step (f : UInt8 → List Bs) {l : Bs} {k : Nat} {a : UInt8} (h : l[k]? = some a) : (l.take (k + 1)).flatMap f = (l.take k).flatMap f ++ f a := by
  rw [List.take_add_one, h]
  simp
structure SpI (w : World) (B cb rb : Nat) (cv rv' : Array Value) (x9 : Value) (ws : List Bs) (wr : World) : Prop where
  row : wr.ownsRow B 9 1 x9 ws.length (ws.map sv)
  gb : w.grownBy wr none
  cb : Box wr 41 cb cv
  rb : Box wr 151 rb rv'
  sz : B ≤ wr.heap.size
theorem SpI.next {w wr W : World} {B cb rb : Nat} {cv rv' : Array Value} {x9 v' : Value} {ws us : List Bs} (h : SpI w B cb rb cv rv' x9 ws wr) (hB : w.heap.size ≤ B) (hc : cb < B) (hr : rb < B) (r : W.ownsRow B 9 1 v' (ws.length + us.length) ((ws ++ us).map sv)) (g : wr.grownBy W x9.ownBlock) : SpI w B cb rb cv rv' v' (ws ++ us) W := by
  have low : ∀ j, x9.ownBlock = some j → B ≤ j := fun j hj => (World.ownsRow.lt h.row j hj).1
  refine ⟨by simpa using r, gb_far h.gb g (B := B) low hB, h.cb.kept g (fun e => ?_), h.rb.kept g (fun e => ?_), Nat.le_trans h.sz g.size⟩
  · have := low cb e.symm; omega
  · have := low rb e.symm; omega
set_option maxRecDepth 100000 in
set_option maxHeartbeats 8000000 in
theorem spell_80 {w : World} {gb : Nat} (hG : GM w gb rowL) {i : Nat} (hi : i < 24) (c : Cmd) (hv : c.verb = (i : Int) + 1) (hr : RngP c) (hf : c.flags ≤ 18446744073709551615) (n : Nat) (hn : n ≤ 9223372036854775807) {kv mv : Value} {da : Option Addr} {dc : Nat} {lg : Bool} (hp : Pw w) (hk : Ws w kv c.keys) (hm : Fg w mv c.mt) (hkn : c.keys.length ≤ 10000000) (hmn : c.mt.length ≤ 10000000) (hfl : ∀ f ∈ c.mt, f.arg.length ≤ 1099511627776) (hL : (lnB i c n).length ≤ 140737488355328) :
    Calls Tryz.prog 85 #[.map (some gb), .agg (cmB c kv (.slice da n dc) mv lg)] w fun e w' => e = .returned (.tuple #[sv (lnB i c n), .bool true]) ∧ w.grownBy w' none := by
  have h21 := fun W (hG : GM W gb rowL) => of_21 hG c.verb
  rw [hv] at h21
  simp only [ofS_n i hi, Option.map_some, Option.getD_some, Option.isSome_some] at h21
  obtain ⟨ka, kn, kc, rfl⟩ := hk.shape
  obtain ⟨ma, mn, mc, rfl⟩ := hm.shape
  have hgA := gb_alloc (gb_refl w none) (.cells (cmB c (.slice ka kn kc) (.slice da n dc) (.slice ma mn mc) lg) 41)
  have hGA := hG.kept hgA (by simp)
  have h125 := fun (W : World) (hW : w.grownBy W none) (a : UInt8) (ha : a ∈ (rwN i).wants) => must_125 c hr hf n hn (da := da) (dc := dc) (lg := lg) W (hp.kept hW) (hk.kept0 hW) ⟨ma, mn, mc, rfl⟩ a (wants_in i hi a ha)
  have h126 := fun (W : World) (hW : w.grownBy W none) (a : UInt8) (ha : a ∈ (rwN i).may) => might_126 c hr (kv := .slice ka kn kc) (dv := .slice da n dc) (lg := lg) W (hp.kept hW) ⟨_, _, _, rfl⟩ ⟨_, _, _, rfl⟩ (hm.kept hW) (by omega) hfl a (may_in i hi a ha)
  have hfew := wants_few i hi
  have hspw := spW_eq i hi c n
  have hnr : (c.nr = true ∧ nrW c.nr = [noreply]) ∨ (c.nr = false ∧ nrW c.nr = []) := by cases c.nr <;> simp
  unfold spW at hspw
  have hln : lnB i c n = Lib.join (spn i :: lws i c n) [32] := (join_bls _ _).symm
  rw [← hspw] at hln
  obtain ⟨nm, hnm⟩ : ∃ x, spn i = x := ⟨_, rfl⟩
  obtain ⟨r, hrw⟩ : ∃ x, rwN i = x := ⟨_, rfl⟩
  rw [hnm, hrw] at h21 hln
  rw [hrw] at h125 h126 hfew
  obtain ⟨rvb, wa, my, en, qu⟩ := r
  simp only at h21 hln h125 h126 hfew
  obtain ⟨LN, hLN⟩ : ∃ x, lnB i c n = x := ⟨_, rfl⟩
  rw [hLN] at hln hL ⊢
  have H125 := Lib.hid h125
  have H126 := Lib.hid h126
  have HLN := Lib.hid hln
  have HNR := Lib.hid hnr
  have hmu := must_few c n
  have hmi := might_few c
  have HMU := Lib.hid hmu
  have HMI := Lib.hid hmi
  clear h125 h126 hln hnm hrw hspw hLN hm hk hp hr hf hfl hnr hmu hmi hG
  have hv0 : (cmB c (.slice ka kn kc) (.slice da n dc) (.slice ma mn mc) lg)[0]? = some (.int .i64 ((i : Int) + 1)) := by rw [← hv]; rfl
  obtain ⟨cv, hcv⟩ : ∃ x, cmB c (.slice ka kn kc) (.slice da n dc) (.slice ma mn mc) lg = x := ⟨_, rfl⟩
  rw [hcv] at hgA hGA hv0 ⊢
  have HCV := Lib.hid hcv
  clear hcv hv
  have bA := Box.new w 41 cv
  have p0 : (w.alloc (.cells cv 41)).cell? ⟨w.heap.size, 0, none⟩ = some (.int .i64 ((i : Int) + 1)) := (bA.cell 0).trans hv0
  go_enter Tryz.func85, Tryz.ntmps85
  go_upto_region 4 with (go_at_call 129; go_must ((with_reducible refine (h21 _ hGA).mono ?_); rintro e w2 ⟨rfl, hg2⟩))
  have hlt : w.heap.size < w2.heap.size := (bA.kept hg2 (by simp)).lt
  obtain ⟨w3, hw3⟩ : ∃ x, w2.alloc (.cells #[.int .i64 rvb, .string ⟨wa.toArray⟩, .string ⟨my.toArray⟩, .bool en, .bool qu] 151) = x := ⟨_, rfl⟩
  have b148 : Box w3 151 w2.heap.size #[.int .i64 rvb, sv wa, sv my, .bool en, .bool qu] := by rw [← hw3]; exact Box.new w2 151 _
  have g23 : w2.grownBy w3 none := by rw [← hw3]; exact gb_alloc (gb_refl _ none) _
  have bc3 : Box w3 41 w.heap.size cv := (bA.kept hg2 (by simp)).kept g23 (by simp)
  have g3 : w.grownBy w3 none := gb_trans (gb_trans hgA hg2) g23
  have hlt2 : w2.heap.size < w3.heap.size := b148.lt
  rw [hw3]
  clear hw3 bA hg2 hgA hGA p0 g23 hv0 h21
  generalize w2.heap.size = rb at *
  go_upto_region 5 with fail
  obtain ⟨W4, hW4⟩ : ∃ x, w3.alloc (.cells #[.string ⟨nm.toArray⟩] 9) = x := ⟨_, rfl⟩
  have gW : w3.grownBy W4 none := by rw [← hW4]; exact gb_alloc (gb_refl _ none) _
  have st : SpI w w3.heap.size w.heap.size rb cv #[.int .i64 rvb, sv wa, sv my, .bool en, .bool qu] (.slice (some ⟨w3.heap.size, 0, none⟩) 1 1) [nm] W4 := by
    refine ⟨own_new (by rw [← hW4]; exact Box.new w3 9 _), gb_trans g3 gW, bc3.kept gW (by simp), b148.kept gW (by simp), gW.size⟩
  have hw3 : w.heap.size ≤ w3.heap.size := g3.size
  rw [hW4]
  clear hW4 gW b148 bc3 g3
  generalize w3.heap.size = B at *
  have y1 : W4.cell? ⟨rb, 1, none⟩ = some (sv wa) := st.rb.cell 1
  go_wp2_with fail
  have HST := Lib.hid st
  clear st y1
  go_loopw [9, 27] (fun x9 x27 wr => ∃ k : Nat, k ≤ wa.length ∧ x27 = .int .i64 (k : Int) ∧ SpI w B w.heap.size rb cv #[.int .i64 rvb, sv wa, sv my, .bool en, .bool qu] x9 (nm :: (wa.take k).flatMap (mustW c n)) wr) (fun _ x27 _ => wa.length - (intOf x27).toNat)
  case atStart => exact ⟨0, by omega, rfl, HST.out⟩
  case round =>
    clear HST
    obtain ⟨k, hk, rfl, hI⟩ := hrel
    obtain ⟨ra, rc, erv, -, -, -, -⟩ := row_shape hI.row
    subst erv
    have hws := flat_few (mustW c n) (c.keys.length + 1) HMU.out (wa.take k)
    have htk : (wa.take k).length ≤ 5 := by rw [List.length_take]; omega
    have hws2 : (wa.take k).length * (c.keys.length + 1) ≤ 5 * (c.keys.length + 1) := Nat.mul_le_mul_right _ htk
    rcases (by omega : k < wa.length ∨ k = wa.length) with hlk | rfl
    · obtain ⟨a, ha⟩ : ∃ a, wa[k]? = some a := ⟨_, List.getElem?_eq_getElem hlk⟩
      have hmem := List.mem_of_getElem? ha
      have hfs := flat_step (mustW c n) ha
      have hua := HMU.out a
      obtain ⟨ws, hwse⟩ : ∃ x, nm :: (wa.take k).flatMap (mustW c n) = x := ⟨_, rfl⟩
      have hwl : ws.length ≤ 1 + 5 * (c.keys.length + 1) := by rw [← hwse, List.length_cons]; omega
      have hnext : nm :: (wa.take (k + 1)).flatMap (mustW c n) = ws ++ mustW c n a := by rw [hfs, ← hwse]; rfl
      rw [hwse] at hI ⊢
      have d1 : decide ((k : Int) < (wa.length : Int)) = true := decide_eq_true (by omega)
      have HI := Lib.hid hI
      have HNX := Lib.hid hnext
      have HA := Lib.hid ha
      clear hI hnext hwse hfs hws hws2 ha
      go_upto_region 8 with fail
      have hcb := HI.out.cb
      rw [← HCV.out] at hcb
      refine sp_r8 hcb HI.out.rb HA.out HI.out.row (by omega) (by omega) HI.out.sz (us := mustW c n a) (by omega) (fun W hW => H125.out W (gb_trans HI.out.gb hW) a hmem) ?_
      intro u30 u31 u32 u33 u34 u35 u36 u37 v' W rW gW
      obtain ⟨va, vc, ev, -, -, -, -⟩ := row_shape rW
      subst ev
      have hNI := HI.out.next (by omega) (by omega) (by omega) rW gW
      clear hcb
      go_wp2_with fail
      refine ⟨⟨k + 1, by omega, by go_num, ?_⟩, by simp [intOf]; omega⟩
      rw [HNX.out]
      exact hNI
    · rw [List.take_length] at hI hws ⊢
      have d1 : decide ((wa.length : Int) < (wa.length : Int)) = false := decide_eq_false (by omega)
      have d1' : decide (wa.length < wa.length) = false := decide_eq_false (by omega)
      obtain ⟨ws0, hws0⟩ : ∃ x, nm :: wa.flatMap (mustW c n) = x := ⟨_, rfl⟩
      have hwl0 : ws0.length ≤ 1 + 5 * (c.keys.length + 1) := by
        rw [← hws0, List.length_cons]
        have h5 : wa.length * (c.keys.length + 1) ≤ 5 * (c.keys.length + 1) := Nat.mul_le_mul_right _ hfew.1
        omega
      have hpos0 : 0 < ws0.length := by rw [← hws0]; simp
      rw [hws0] at hI ⊢
      have HW0 := Lib.hid hws0
      clear hws0 hws hws2 htk
      have y2 : wr.cell? ⟨rb, 2, none⟩ = some (sv my) := hI.rb.cell 2
      have HI := Lib.hid hI
      clear hI
      go_wp2_with fail
      clear y2 d1 d1'
      go_loopw [9, 42] (fun x9 x42 wq => ∃ j : Nat, j ≤ my.length ∧ x42 = .int .i64 (j : Int) ∧ SpI w B w.heap.size rb cv #[.int .i64 rvb, sv wa, sv my, .bool en, .bool qu] x9 (ws0 ++ (my.take j).flatMap (mightW c)) wq) (fun _ x42 _ => my.length - (intOf x42).toNat)
      case atStart => exact ⟨0, by omega, rfl, by simpa using HI.out⟩
      case round =>
        clear HI
        obtain ⟨j, hj, rfl, hJ⟩ := hrel
        obtain ⟨rra, rrc, erv, -, -, -, -⟩ := row_shape hJ.row
        subst erv
        have hws := flat_few (mightW c) (c.mt.length + 1) HMI.out (my.take j)
        have htk : (my.take j).length ≤ 1 := by rw [List.length_take]; omega
        have hws2 : (my.take j).length * (c.mt.length + 1) ≤ 1 * (c.mt.length + 1) := Nat.mul_le_mul_right _ htk
        have hwl1 : (ws0 ++ (my.take j).flatMap (mightW c)).length ≤ 1 + 5 * (c.keys.length + 1) + (c.mt.length + 1) := by rw [List.length_append]; omega
        have hpos1 : 0 < (ws0 ++ (my.take j).flatMap (mightW c)).length := by rw [List.length_append]; omega
        rcases (by omega : j < my.length ∨ j = my.length) with hlj | rfl
        · obtain ⟨a, ha⟩ : ∃ a, my[j]? = some a := ⟨_, List.getElem?_eq_getElem hlj⟩
          have hmem := List.mem_of_getElem? ha
          have hfs := flat_step (mightW c) ha
          have hua := HMI.out a
          obtain ⟨ws, hwse⟩ : ∃ x, ws0 ++ (my.take j).flatMap (mightW c) = x := ⟨_, rfl⟩
          rw [hwse] at hwl1
          have hnext : ws0 ++ (my.take (j + 1)).flatMap (mightW c) = ws ++ mightW c a := by rw [hfs, ← hwse, List.append_assoc]
          rw [hwse] at hJ ⊢
          have d1 : decide ((j : Int) < (my.length : Int)) = true := decide_eq_true (by omega)
          have HJ := Lib.hid hJ
          have HNX := Lib.hid hnext
          have HA := Lib.hid ha
          clear hJ hnext hwse hfs hws hws2 ha hpos1
          go_upto_region 13 with fail
          have hcb := HJ.out.cb
          rw [← HCV.out] at hcb
          refine sp_r13 hcb HJ.out.rb HA.out HJ.out.row (by omega) (by omega) HJ.out.sz (us := mightW c a) (by omega) (fun W hW => H126.out W (gb_trans HJ.out.gb hW) a hmem) ?_
          intro u45 u46 u47 u48 u49 u50 u51 u52 v' W rW gW
          obtain ⟨va, vc, ev, -, -, -, -⟩ := row_shape rW
          subst ev
          have hNI := HJ.out.next (by omega) (by omega) (by omega) rW gW
          clear hcb
          go_wp2_with fail
          refine ⟨⟨j + 1, by omega, by go_num, ?_⟩, by simp [intOf]; omega⟩
          rw [HNX.out]
          exact hNI
        · rw [List.take_length] at hJ hwl1 hpos1 ⊢
          have d1 : decide ((my.length : Int) < (my.length : Int)) = false := decide_eq_false (by omega)
          have d1' : decide (my.length < my.length) = false := decide_eq_false (by omega)
          obtain ⟨ws1, hws1⟩ : ∃ x, ws0 ++ my.flatMap (mightW c) = x := ⟨_, rfl⟩
          rw [hws1] at hJ hwl1 hpos1 ⊢
          have hfin : LN = Lib.join (ws1 ++ nrW c.nr) [32] := by
            rw [HLN.out, ← hws1, ← HW0.out]
            simp
          have p7 : wr.cell? ⟨w.heap.size, 7, none⟩ = some (.bool c.nr) := by
            rw [hJ.cb.cell 7, ← HCV.out]
            rfl
          have HJ := Lib.hid hJ
          have HFIN := Lib.hid hfin
          clear hJ hfin hws1 hws hws2 htk HW0 HLN
          have hend : ∀ (W : World) (g cap : Nat) (ws : List Bs), W.ownsRow B 9 1 (.slice (some ⟨g, 0, none⟩) ws.length cap) ws.length (ws.map sv) → LN = Lib.join ws [32] → ws.length ≤ 1000000000 → Calls Tryz.prog 132 #[.slice (some ⟨g, 0, none⟩) ws.length cap, .string ⟨#[32]⟩] W fun e w' => e = .returned (sv LN) ∧ W.grownBy w' none := by
            intro W g cap ws hrow he hl
            obtain ⟨_, _, e, _, h2, _, _⟩ := row_shape hrow
            injection e with _ _ e3
            have hL2 := hL
            rw [he] at hL2 ⊢
            exact join_24 g 0 cap ws W (row_lt hrow g rfl) hl (by omega) (fun i x hx => by rw [Nat.zero_add]; exact row_cell hrow i _ (by rw [List.getElem?_map, hx]; rfl)) hL2
          obtain ⟨_, _, e9, -, -, -, h9⟩ := row_shape HJ.out.row
          obtain ⟨g9, h9⟩ := h9 hpos1
          injection e9 with e91 _ e93
          rw [h9] at e91
          subst e91
          clear h9 e93
          have hrow := HJ.out.row
          have hsz := HJ.out.sz
          rcases HNR.out with ⟨hn1, hn2⟩ | ⟨hn1, hn2⟩
          · have HF := Lib.hid (show LN = Lib.join (ws1 ++ [noreply]) [32] by have h := HFIN.out; rwa [hn2] at h)
            rw [hn1] at p7
            have hl2 : ws1.length + 1 ≤ 1000000000 := by omega
            go_wp2_with (first
              | (at_builtin; go_must (refine push9 rfl _ _ rfl B _ ws1.length _ (by rfl) hrow ⟨noreply.toArray⟩ (by rfl) (by omega) hsz ?_); intro g4 c4 w4 r4 g4' o4; have hJn := hend w4 g4 c4 (ws1 ++ [noreply]) (by simpa using r4) HF.out (by simpa using hl2); rw [List.length_append] at hJn; have hJn : Calls Tryz.prog 132 #[.slice (some ⟨g4, 0, none⟩) (ws1.length + 1) c4, .string ⟨#[32]⟩] w4 fun e w' => e = .returned (sv LN) ∧ w4.grownBy w' none := hJn)
              | (go_at_call 132; go_must (refine hJn.mono ?_); rintro e w6 ⟨rfl, g6⟩))
            go_ret2
            exact ⟨rfl, gb_trans (gb_far HJ.out.gb g4' (B := B) (fun j hj => (World.ownsRow.lt hrow j hj).1) hw3) g6⟩
          · have hJn := hend wr g9 _ ws1 hrow (by have h := HFIN.out; rwa [hn2, List.append_nil] at h) (by omega)
            rw [hn1] at p7
            go_wp2_with (go_at_call 132; go_must (refine hJn.mono ?_); rintro e w6 ⟨rfl, g6⟩)
            go_ret2
            exact ⟨rfl, gb_trans HJ.out.gb g6⟩
end Go.Proofs.YtbbocbdoiealoaaGreatDoor
