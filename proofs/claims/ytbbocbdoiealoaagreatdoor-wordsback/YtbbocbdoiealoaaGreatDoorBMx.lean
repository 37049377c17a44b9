import Derived.Test.YtbbocbdoiealoaaGreatDoorBPbt
import Derived.Test.YtbbocbdoiealoaaGreatDoorBPbl
import Derived.Test.YtbbocbdoiealoaaGreatDoorBPat
import Derived.Test.YtbbocbdoiealoaaGreatDoorBPbj
set_option linter.unusedVariables false
set_option linter.unusedSimpArgs false
namespace Go.Proofs.YtbbocbdoiealoaaGreatDoor
open Go.ChangeShapes Go.WideShapes Go.ChangeAt Go.RowKit Go.Shelf
structure CbOk (w : World) (x : CI) : Prop where
  ok : CiOk w x
  bw : Bw w x.dv x.d
  fi : Fi w x.mv x.c.mt
  kn : x.c.keys.length ≤ 10000000
  mn : x.c.mt.length ≤ 1000000
  fl : ∀ f ∈ x.c.mt, f.arg.length ≤ 1099511627776
  ln : ∀ i, i < 24 → (lnB i x.c x.d.length).length ≤ 1000000000
theorem bulk_pos {H : Type} (d : DataW H) : 0 < Rows.uptoBulk d := by
  cases d with
  | lit l => cases l <;> simp [Rows.uptoBulk]
  | _ => simp [Rows.uptoBulk]
theorem length_bulk {H : Type} : ∀ l : List (DataW H), l.length ≤ Rows.uptoBulkAll l
  | [] => Nat.zero_le _
  | d :: l => by
    have h1 := bulk_pos d
    have h2 := length_bulk l
    simp only [Rows.uptoBulkAll, List.length_cons]
    omega
theorem mem_bulk {H : Type} : ∀ {l : List (DataW H)} {d : DataW H}, d ∈ l → Rows.uptoBulk d ≤ Rows.uptoBulkAll l
  | e :: l, d, h => by
    simp only [Rows.uptoBulkAll]
    rcases List.mem_cons.1 h with h | h
    · subst h; omega
    · have := mem_bulk h
      omega
theorem sum_bulk {H : Type} {Z : Nat → Bs} {D : Nat → DataW H} : ∀ l : List Nat, (∀ i ∈ l, (Z i).length + 1 ≤ Rows.uptoBulk (D i)) → (bls (l.map Z)).length ≤ Rows.uptoBulkAll (l.map D)
  | [], _ => by simp [bls]
  | i :: l, h => by
    have h1 := h i (by simp)
    have h2 := sum_bulk l (fun j hj => h j (by simp [hj]))
    rw [List.map_cons, List.map_cons, bls_cons]
    simp only [Rows.uptoBulkAll, List.length_cons, List.length_append]
    omega
section
variable {H : Type} {enc : TypeId × Value → H} {P : Program} {w : World} {base : Nat} {spare : Nat → Bool} {held : Bool}
theorem each_bulk {xs : List (DataW H × List MemPlace)} {i : Nat} (hi : i < xs.length) : Rows.uptoBulk xs[i].1 + 1 ≤ Rows.uptoBulk (DataW.agg (xs.map (·.1))) := by
  simp only [Rows.uptoBulk]
  have := mem_bulk (l := xs.map (·.1)) (d := xs[i].1) (List.mem_map.2 ⟨xs[i], List.getElem_mem _, rfl⟩)
  omega
theorem field_stringB {fs : Array Field} {f : Field} {t : TypeId} {fuel : Nat} {cs : List Value} {x : DataW H × List MemPlace} (i : Nat) (ht : P.underlying t = some (.struct fs)) (h : DataW.trod enc P w base spare held fuel t cs = some x)
    (hf : fs[i]? = some f) (hk : P.underlying f.type = some .string) (hc : P.cellsOf f.type = 1) : ∃ s : Bs, cs[f.offset]? = some (sv s) ∧ s.length ∈ x.1.weights P t ∧ s.length + 2 ≤ Rows.uptoBulk x.1 := by
  obtain ⟨xs, n, _, rfl, hl, hlen, hff⟩ := DataW.trod_struct ht h
  have := hff i f hf
  have hi : i < xs.length := by rw [hlen]; exact (Array.getElem?_eq_some_iff.1 hf).1
  rw [List.getElem?_eq_getElem hi] at this
  obtain ⟨s, h1, h2, h3⟩ := DataW.trod_string hk this
  rw [hc] at h1
  refine ⟨s.data.toList, one_of h1, ?_, ?_⟩
  · refine each_mem ht hf hi ?_
    rw [h2]
    simp [DataW.weights]
  · have := each_bulk hi
    have e : Rows.uptoBulk xs[i].1 = s.data.toList.length + 1 := by
      rw [show xs[i].1 = _ from congrArg Prod.fst h2]
      simp [Rows.uptoBulk]
    rw [e] at this
    exact this
end
section
variable {H : Type} {enc : TypeId × Value → H} {w : World} {base : Nat} {spare : Nat → Bool} {held : Bool}
set_option maxRecDepth 100000 in
theorem open_flagsB {fuel : Nat} {cs : List Value} {x : DataW H × List MemPlace} (h : DataW.trod enc Tryz.prog w base spare held fuel 39 cs = some x) (hsz : ∀ k ∈ x.1.weights Tryz.prog 39, k ≤ 140737488351232) :
    ∃ v fs, cs = [v] ∧ Fi w v fs ∧ fs.length * 32 ≤ 140737488351232 ∧ (∀ f ∈ fs, f.arg.length ≤ 140737488351232) ∧ (bls (fs.map fw)).length ≤ Rows.uptoBulk x.1 ∧ fs.length ≤ Rows.uptoBulk x.1 := by
  rcases Deep.open_slice Tryz.underlying39 h with ⟨hcs, _⟩ | ⟨a, len, cap, m, n, D, Pl, hcs, hb, hl, hm, hmm, hx, hel⟩
  · exact ⟨_, [], hcs, .inl ⟨rfl, .inl rfl⟩, by simp, by simp, by simp [bls], by simp⟩
  · have hlm : len ≤ m := by rw [hmm]; split <;> omega
    have hlen : len * 32 ≤ 140737488351232 := by
      have := hsz ((len + (m - len)) * 32) (by rw [hx]; simp [DataW.weights, Tryz.underlying39, bytes79])
      omega
    have one : ∀ i, ∃ f : Fl, i < len → (w.cell? ((a.add (i * 3)).add 0) = some (.int .u8 f.letter.toNat) ∧ w.cell? ((a.add (i * 3)).add 1) = some (sv f.arg) ∧ w.cell? ((a.add (i * 3)).add 2) = some (.bool f.has)) ∧ f.arg.length ≤ 140737488351232 ∧ f.arg.length + 2 ≤ Rows.uptoBulk (D i) := by
      intro i
      by_cases hi : i < len
      · obtain ⟨cs', hc, ht⟩ := hel i (by omega)
        rw [cells79] at hc
        obtain ⟨z, e0, w0⟩ := field_int 0 Tryz.underlying79 ht rfl Tryz.underlying5 (by kernel_rfl)
        obtain ⟨s, e1, m1, u1⟩ := field_stringB 1 Tryz.underlying79 ht rfl Tryz.underlying9 (by kernel_rfl)
        obtain ⟨b, e2⟩ := field_bool 2 Tryz.underlying79 ht rfl Tryz.underlying4 (by kernel_rfl)
        have hcell := World.cells?_some hc
        have bz := bounds_u8 w0
        have e : ((UInt8.ofNat z.toNat).toNat : Int) = z := by
          rw [UInt8.toNat_ofNat_of_lt' (by simp; omega)]
          omega
        refine ⟨⟨UInt8.ofNat z.toNat, s, b⟩, fun _ => ⟨⟨?_, (hcell.2.2 1 (by omega)).trans e1, (hcell.2.2 2 (by omega)).trans e2⟩, ?_, u1⟩⟩
        · rw [(hcell.2.2 0 (by omega)).trans e0, e]
        · refine hsz _ ?_
          rw [hx]
          simp only [DataW.weights, Tryz.underlying39]
          exact List.mem_cons_of_mem _ (List.mem_append_left _ (weightsAll_mem (d := D i) (List.mem_map.2 ⟨i, List.mem_range.2 hi, rfl⟩) _ m1))
      · exact ⟨⟨0, [], false⟩, fun h => absurd h hi⟩
    obtain ⟨F, hF⟩ := Classical.axiomOfChoice one
    have hfl : ((List.range len).map F).length = len := by simp
    refine ⟨.slice (some a) len cap, (List.range len).map F, hcs, ?_, by rw [hfl]; exact hlen, ?_, ?_, ?_⟩
    · rcases Nat.eq_zero_or_pos len with rfl | h0
      · exact .inl ⟨rfl, .inr ⟨_, _, rfl⟩⟩
      · obtain ⟨b, o, rfl⟩ : ∃ b o, a = ⟨b, o, none⟩ := by
          have g0 := (hF 0 h0).1.1
          rw [Deep.add_add, Nat.zero_mul] at g0
          exact plain_of g0
        refine .inr ⟨b, o, cap, by rw [hfl], fun i f hi => ?_⟩
        have hil : i < len := by
          have := (List.getElem?_eq_some_iff.1 hi).1
          omega
        have := (hF i hil).1
        simp [hil] at hi
        rw [hi] at this
        simp only [Addr.add_mid] at this
        simpa using this
    · intro f hf
      obtain ⟨i, hi, rfl⟩ := List.mem_map.1 hf
      exact (hF i (List.mem_range.1 hi)).2.1
    · rw [hx]
      simp only [Rows.uptoBulk, List.map_map]
      have := sum_bulk (Z := fun i => fw (F i)) (D := D) (List.range len) (fun i hi => by
        have := (hF i (List.mem_range.1 hi)).2.2
        show (fw (F i)).length + 1 ≤ _
        unfold fw
        simp only [List.length_cons]
        omega)
      simp only [Function.comp_def]
      omega
    · rw [hx, hfl]
      simp only [Rows.uptoBulk]
      have := length_bulk ((List.range len).map D)
      rw [List.length_map, List.length_range] at this
      omega
set_option maxRecDepth 100000 in
theorem open_textsB {fuel : Nat} {cs : List Value} {x : DataW H × List MemPlace} (h : DataW.trod enc Tryz.prog w base spare held fuel 36 cs = some x) (hsz : ∀ k ∈ x.1.weights Tryz.prog 36, k ≤ 140737488351232) :
    ∃ v ks, cs = [v] ∧ Ws w v ks ∧ ks.length ≤ 140737488351232 ∧ (∀ k ∈ ks, k.length ≤ 140737488351232) ∧ (bls ks).length ≤ Rows.uptoBulk x.1 ∧ ks.length ≤ Rows.uptoBulk x.1 := by
  rcases Deep.open_slice Tryz.underlying36 h with ⟨hcs, _⟩ | ⟨a, len, cap, m, n, D, Pl, hcs, hb, hl, hm, hmm, hx, hel⟩
  · exact ⟨_, [], hcs, .inl ⟨rfl, _, _, rfl⟩, by simp, by simp, by simp [bls], by simp⟩
  · have hlm : len ≤ m := by rw [hmm]; split <;> omega
    have hlen : len ≤ 140737488351232 := by
      have := hsz ((len + (m - len)) * 16) (by rw [hx]; simp [DataW.weights, Tryz.underlying36, bytes9])
      omega
    rcases Nat.eq_zero_or_pos len with rfl | h0
    · exact ⟨_, [], hcs, .inl ⟨rfl, _, _, rfl⟩, by simp, by simp, by simp [bls], by simp⟩
    · have one : ∀ i, ∃ s : Bs, i < len → w.cell? ((a.add (i * 1)).add 0) = some (sv s) ∧ s.length ≤ 140737488351232 ∧ s.length + 1 ≤ Rows.uptoBulk (D i) := by
        intro i
        by_cases hi : i < len
        · obtain ⟨cs', hc, ht⟩ := hel i (by omega)
          rw [cells9] at hc
          obtain ⟨s, h3, h4, _⟩ := DataW.trod_string Tryz.underlying9 ht
          have hcell := World.cells?_some hc
          refine ⟨s.data.toList, fun _ => ⟨?_, hsz _ ?_, by rw [show D i = _ from congrArg Prod.fst h4]; simp [Rows.uptoBulk]⟩⟩
          · rw [hcell.2.2 0 (by omega), h3]
            rfl
          · rw [hx]
            simp only [DataW.weights, Tryz.underlying36]
            refine List.mem_cons_of_mem _ (List.mem_append_left _ (weightsAll_mem (d := D i) (List.mem_map.2 ⟨i, List.mem_range.2 hi, rfl⟩) _ ?_))
            rw [show D i = _ from congrArg Prod.fst h4]
            simp [DataW.weights]
        · exact ⟨[], fun h => absurd h hi⟩
      obtain ⟨Z, hZ⟩ := Classical.axiomOfChoice one
      have hzl : ((List.range len).map Z).length = len := by simp
      obtain ⟨b, o, rfl⟩ : ∃ b o, a = ⟨b, o, none⟩ := by
        have g0 := (hZ 0 h0).1
        rw [Deep.add_add, Nat.zero_mul] at g0
        exact plain_of g0
      have hc0 : ∀ i, i < len → w.cell? ⟨b, o + i, none⟩ = some (sv (Z i)) := fun i hi => by
        have := (hZ i hi).1
        rw [Deep.add_add, Nat.mul_one, Nat.add_zero, Addr.add_mid] at this
        exact this
      refine ⟨_, (List.range len).map Z, hcs, .inr ⟨b, o, cap, by rw [hzl], by rw [hzl]; exact hl, World.block_lt_of_cell? _ _ (hc0 0 h0), fun i x hi => ?_⟩, by rw [hzl]; exact hlen, ?_, ?_, ?_⟩
      · have hil : i < len := by
          have := (List.getElem?_eq_some_iff.1 hi).1
          omega
        rw [hc0 i hil]
        simp [hil] at hi
        rw [hi]
      · intro k hk
        obtain ⟨i, hi, rfl⟩ := List.mem_map.1 hk
        exact (hZ i (List.mem_range.1 hi)).2.1
      · rw [hx]
        simp only [Rows.uptoBulk]
        have := sum_bulk (Z := Z) (D := D) (List.range len) (fun i hi => (hZ i (List.mem_range.1 hi)).2.2)
        omega
      · rw [hx, hzl]
        simp only [Rows.uptoBulk]
        have := length_bulk ((List.range len).map D)
        rw [List.length_map, List.length_range] at this
        omega
end
theorem bls_flat (f : UInt8 → List Bs) (m : Nat) : ∀ l : Bs, (∀ a ∈ l, (bls (f a)).length ≤ m) → (bls (l.flatMap f)).length ≤ l.length * m := flat_bound f m
theorem lnB_bulk {i : Nat} (hi : i < 24) {c : Cmd} (hr : RngP c) (hf : c.flags ≤ 18446744073709551615) {n : Nat} (hn : n ≤ 18446744073709551615) (hk : (bls c.keys).length ≤ 1048576) (hm : (bls (c.mt.map fw)).length ≤ 1048576) (hw : c.what.length ≤ 1048576) : (lnB i c n).length ≤ 1000000000 := by
  have key : ∀ a ∈ (dr i).shape, (bls (lw c n a)).length ≤ 2000000 := by
    intro a ha
    have hin := shape_in i hi a ha
    simp only [List.mem_cons, List.not_mem_nil, or_false] at hin
    rcases hin with rfl | rfl | rfl | rfl | rfl | rfl | rfl | rfl | rfl | rfl | rfl
    · rw [show lw c n 75 = c.keys from rfl]; omega
    · have := one_bound _ _ (dg_20 c.flags hf)
      rw [show lw c n 70 = [dg c.flags] from rfl]; omega
    · have := one_bound _ _ (sg_21 c.exp hr.e1 hr.e2)
      rw [show lw c n 84 = [sg c.exp] from rfl]; omega
    · have := one_bound _ _ (dg_20 n hn)
      rw [show lw c n 78 = [dg n] from rfl]; omega
    · have := one_bound _ _ (dg_20 c.tok hr.tok)
      rw [show lw c n 67 = [dg c.tok] from rfl]; omega
    · have := one_bound _ _ (dg_20 c.del hr.del)
      rw [show lw c n 68 = [dg c.del] from rfl]; omega
    · have := one_bound [49] 1 (by decide)
      rw [show lw c n 86 = [[49]] from rfl]; omega
    · have := one_bound _ _ hw
      rw [show lw c n 87 = (if c.what = [] then [] else [c.what]) from rfl]
      split
      · rw [nil_bound]; omega
      · omega
    · rw [show lw c n 71 = c.mt.map fw from rfl]; omega
    · have := one_bound _ _ (sg_21 c.exp hr.e1 hr.e2)
      rw [show lw c n 83 = (if c.exp = 0 then [] else [sg c.exp]) from rfl]
      split
      · rw [nil_bound]; omega
      · omega
    · rw [show lw c n 90 = [] from rfl, nil_bound]; omega
  have h1 := bls_flat (lw c n) 2000000 (dr i).shape key
  have h2 : (dr i).shape.length ≤ 20 := Nat.le_trans (shape_len i hi) (by omega)
  have h3 := spn_len i hi
  unfold lnB lws
  rw [bls_app, List.length_append, List.length_append]
  have h4 : (bls (nrW c.nr)).length ≤ 20 := by cases c.nr <;> decide
  have : (dr i).shape.length * 2000000 ≤ 20 * 2000000 := Nat.mul_le_mul_right _ h2
  omega
theorem bls_two : ∀ fs : List Fl, fs.length * 2 ≤ (bls (fs.map fw)).length
  | [] => by simp
  | f :: l => by
    have := bls_two l
    rw [List.map_cons, bls_cons, List.length_cons, List.length_cons, List.length_append]
    have : (fw f).length = f.arg.length + 1 := by unfold fw; simp
    omega
theorem bls_mem {x : Bs} : ∀ {l : List Bs}, x ∈ l → ∀ {n : Nat}, n ≤ x.length → n ≤ (bls l).length
  | y :: l, h, n, hn => by
    rw [bls_cons, List.length_cons, List.length_append]
    rcases List.mem_cons.1 h with h | h
    · subst h; omega
    · have := bls_mem h hn
      omega
section
variable {H : Type} {enc : TypeId × Value → H} {w : World} {base : Nat} {spare : Nat → Bool} {held : Bool}
set_option maxRecDepth 100000 in
set_option maxHeartbeats 1000000 in
theorem open_cmdB {fuel : Nat} {cs : List Value} {x : DataW H × List MemPlace} (h : DataW.trod enc Tryz.prog w base spare held fuel 41 cs = some x) (hsz : ∀ k ∈ x.1.weights Tryz.prog 41, k ≤ 140737488351232) (hbk : Rows.uptoBulk x.1 ≤ 1048576) :
    ∃ y : CI, CbOk w y ∧ ∀ j, j < 11 → cs[j]? = (ciL y)[j]? := by
  obtain ⟨zv, ev, wv⟩ := field_int 0 Tryz.underlying41 h rfl Tryz.underlying3 (by kernel_rfl)
  obtain ⟨zf, ef, wf⟩ := field_int 2 Tryz.underlying41 h rfl Tryz.underlying37 (by kernel_rfl)
  obtain ⟨ze, ee, we⟩ := field_int 3 Tryz.underlying41 h rfl Tryz.underlying3 (by kernel_rfl)
  obtain ⟨zt, et, wt⟩ := field_int 4 Tryz.underlying41 h rfl Tryz.underlying37 (by kernel_rfl)
  obtain ⟨zd, ed, wd⟩ := field_int 5 Tryz.underlying41 h rfl Tryz.underlying37 (by kernel_rfl)
  obtain ⟨bn, en⟩ := field_bool 7 Tryz.underlying41 h rfl Tryz.underlying4 (by kernel_rfl)
  obtain ⟨bl, el⟩ := field_bool 8 Tryz.underlying41 h rfl Tryz.underlying4 (by kernel_rfl)
  obtain ⟨sw, ew, mw, uw⟩ := field_stringB 10 Tryz.underlying41 h rfl Tryz.underlying9 (by kernel_rfl)
  obtain ⟨xs, k', _, ex, hl', hlen', hff⟩ := DataW.trod_struct Tryz.underlying41 h
  have hx11 : xs.length = 11 := by rw [hlen']; rfl
  have h1 : DataW.trod enc Tryz.prog w base spare held k' 36 ((cs.drop 1).take (Tryz.prog.cellsOf 36)) = xs[1]? := hff 1 _ rfl
  have h6 : DataW.trod enc Tryz.prog w base spare held k' 38 ((cs.drop 6).take (Tryz.prog.cellsOf 38)) = xs[6]? := hff 6 _ rfl
  have h9 : DataW.trod enc Tryz.prog w base spare held k' 39 ((cs.drop 9).take (Tryz.prog.cellsOf 39)) = xs[9]? := hff 9 _ rfl
  rw [List.getElem?_eq_getElem (by omega), show Tryz.prog.cellsOf 36 = 1 by kernel_rfl] at h1
  rw [List.getElem?_eq_getElem (by omega), cells38] at h6
  rw [List.getElem?_eq_getElem (by omega), show Tryz.prog.cellsOf 39 = 1 by kernel_rfl] at h9
  obtain ⟨kv, ks, ek, hks, hkl, hka, hkb, hkc⟩ := open_textsB h1 (fun q hq => hsz _ (by
    rw [show x.1 = _ from congrArg Prod.fst ex]
    exact each_mem Tryz.underlying41 (i := 1) rfl (by omega) hq))
  obtain ⟨dv, dl, edv, hdv, hdl⟩ := open_bw h6 (fun q hq => hsz _ (by
    rw [show x.1 = _ from congrArg Prod.fst ex]
    exact each_mem Tryz.underlying41 (i := 6) rfl (by omega) hq))
  obtain ⟨mv, fs, em, hmv, hml, hma, hmb, hmc⟩ := open_flagsB h9 (fun q hq => hsz _ (by
    rw [show x.1 = _ from congrArg Prod.fst ex]
    exact each_mem Tryz.underlying41 (i := 9) rfl (by omega) hq))
  have u1 := each_bulk (xs := xs) (i := 1) (by omega)
  have u9 := each_bulk (xs := xs) (i := 9) (by omega)
  have hx1 : x.1 = DataW.agg (xs.map (·.1)) := congrArg Prod.fst ex
  rw [hx1] at hbk uw
  have bv := bounds_i64 wv
  have bf := bounds_u64 wf
  have be := bounds_i64 we
  have bt := bounds_u64 wt
  have bd := bounds_u64 wd
  have qf : ((zf.toNat : Nat) : Int) = zf := by omega
  have qt : ((zt.toNat : Nat) : Int) = zt := by omega
  have qd : ((zd.toNat : Nat) : Int) = zd := by omega
  refine ⟨⟨⟨zv, ks, zf.toNat, ze, zt.toNat, zd.toNat, bn, fs, sw⟩, dl, bl, kv, dv, mv⟩, ?_, ?_⟩
  · have hok : CiOk w ⟨⟨zv, ks, zf.toNat, ze, zt.toNat, zd.toNat, bn, fs, sw⟩, dl, bl, kv, dv, mv⟩ := by
     refine ⟨hks, ?_, hmv.fg, ⟨be.1, be.2, ?_, ?_⟩, ?_, bv.2, bv.1, ?_, ?_, ?_, ?_, ?_⟩
     · rcases hdv with h | ⟨h, a, c, e⟩
       · exact .inl h
       · exact .inr ⟨h, _, _, e⟩
     · show zt.toNat ≤ _; omega
     · show zd.toNat ≤ _; omega
     · show zf.toNat ≤ _; omega
     · show dl.length ≤ _; omega
     · show ks.length ≤ _; omega
     · show fs.length ≤ _; omega
     · intro k hk; have := hka k hk; omega
     · intro f hf; have := hma f hf; omega
    refine ⟨hok, hdv, hmv, ?_, ?_, ?_, fun i hi => ?_⟩
    · show ks.length ≤ _; omega
    · have := bls_two fs; show fs.length ≤ _; omega
    · intro f hf
      have h1 : (bls (fs.map fw)).length ≤ 1048576 := by omega
      have h2 : f.arg.length ≤ (bls (fs.map fw)).length := bls_mem (x := fw f) (List.mem_map.2 ⟨f, hf, rfl⟩) (by unfold fw; simp)
      omega
    · exact lnB_bulk hi hok.r hok.f (by have := hok.dn; show dl.length ≤ _; have h : dl.length ≤ 140737488355328 := this; omega) (by show (bls ks).length ≤ _; omega) (by show (bls (fs.map fw)).length ≤ _; omega) (by show sw.length ≤ _; omega)
  · intro j hj
    match j, hj with
    | 0, _ => exact ev
    | 1, _ => exact one_of ek
    | 2, _ => rw [show cs[2]? = some (.int .u64 zf) from ef]; show _ = some (Value.int .u64 ((zf.toNat : Nat) : Int)); rw [qf]
    | 3, _ => exact ee
    | 4, _ => rw [show cs[4]? = some (.int .u64 zt) from et]; show _ = some (Value.int .u64 ((zt.toNat : Nat) : Int)); rw [qt]
    | 5, _ => rw [show cs[5]? = some (.int .u64 zd) from ed]; show _ = some (Value.int .u64 ((zd.toNat : Nat) : Int)); rw [qd]
    | 6, _ => exact one_of edv
    | 7, _ => exact en
    | 8, _ => exact el
    | 9, _ => exact one_of em
    | 10, _ => exact ew
set_option maxRecDepth 100000 in
theorem open_cmdsB {r : Reach} {b0 : Nat} {v : Value} {d : DataW H} {p : List MemPlace} (hv : Value.okWide Tryz.prog w r b0 63 v) (h : DataW.Trod enc Tryz.prog w base spare held 63 v d p) (hsz : ∀ k ∈ d.weights Tryz.prog 63, k ≤ 140737488351232) (hbk : Rows.uptoBulk d ≤ 1048576) :
    ∃ la lc cs, v = .slice la (cs : List CI).length lc ∧ Cms w v cs ∧ ∀ x ∈ cs, CbOk w x := by
  obtain ⟨a, n, c, rfl⟩ := okWide_slice Tryz.underlying63 hv
  obtain ⟨fuel, hf⟩ := h
  have hf' : DataW.trod enc Tryz.prog w base spare held fuel 63 [.slice a n c] = some (d, p) := by simpa [Value.cells] using hf
  rcases Deep.open_slice Tryz.underlying63 hf' with ⟨hcs, _⟩ | ⟨a', len, cap, m, k, D, Pl, hcs, hb, hl, hm, hmm, hx, hel⟩
  · simp only [List.cons.injEq, Value.slice.injEq, and_true] at hcs
    obtain ⟨rfl, rfl, rfl⟩ := hcs
    exact ⟨none, 0, [], rfl, ⟨⟨_, _, rfl⟩, by simp, fun k x h => by simp at h, fun x h => by cases h⟩, fun x h => by cases h⟩
  · simp only [List.cons.injEq, Value.slice.injEq, and_true] at hcs
    obtain ⟨rfl, rfl, rfl⟩ := hcs
    have hlm : n ≤ m := by rw [hmm]; split <;> omega
    have one : ∀ i, ∃ y : CI, i < n → CbOk w y ∧ ∀ j, j < 11 → w.cell? ((a'.add (i * 11)).add j) = (ciL y)[j]? := by
      intro i
      by_cases hi : i < n
      · obtain ⟨cs', hc, ht⟩ := hel i (by omega)
        rw [cells41] at hc
        obtain ⟨y, hy, hcell⟩ := open_cmdB ht (fun q hq => hsz _ (by
          rw [show d = _ from congrArg Prod.fst hx]
          simp only [DataW.weights, Tryz.underlying63]
          exact List.mem_cons_of_mem _ (List.mem_append_left _ (weightsAll_mem (d := D i) (List.mem_map.2 ⟨i, List.mem_range.2 hi, rfl⟩) _ hq)))) (by
          have h9 := hbk
          rw [show d = _ from congrArg Prod.fst hx] at h9
          simp only [Rows.uptoBulk] at h9
          have := mem_bulk (l := (List.range n).map D) (d := D i) (List.mem_map.2 ⟨i, List.mem_range.2 hi, rfl⟩)
          show Rows.uptoBulk (D i) ≤ _
          omega)
        have hc2 := World.cells?_some hc
        exact ⟨y, fun _ => ⟨hy, fun j hj => (hc2.2.2 j hj).trans (hcell j hj)⟩⟩
      · exact ⟨⟨⟨0, [], 0, 0, 0, 0, false, [], []⟩, [], false, .bool false, .bool false, .bool false⟩, fun h => absurd h hi⟩
    obtain ⟨F, hF⟩ := Classical.axiomOfChoice one
    have hfl : ((List.range n).map F).length = n := by simp
    refine ⟨some a', c, (List.range n).map F, by rw [hfl], ⟨⟨some a', c, by rw [hfl]⟩, by rw [hfl]; unfold maxLen at hm; omega, fun k x hi => ?_, fun x hx => ?_⟩, fun x hx => ?_⟩
    · have hil : k < n := by
        have := (List.getElem?_eq_some_iff.1 hi).1
        omega
      obtain ⟨b, o, rfl⟩ : ∃ b o, a' = ⟨b, o, none⟩ := by
        have g0 := (hF 0 (by omega)).2 0 (by omega)
        rw [Deep.add_add, Nat.zero_mul] at g0
        exact plain_of g0
      have h2 := (hF k hil).2
      simp [hil] at hi
      rw [hi] at h2
      refine ⟨b, o, c, by rw [hfl], fun j u hu => ?_⟩
      have hj := (List.getElem?_eq_some_iff.1 hu).1
      have h3 := h2 j (by simpa using hj)
      rw [hu] at h3
      simp only [Addr.add_mid] at h3
      exact h3
    · obtain ⟨i, hi, rfl⟩ := List.mem_map.1 hx
      exact (hF i (List.mem_range.1 hi)).1.ok
    · obtain ⟨i, hi, rfl⟩ := List.mem_map.1 hx
      exact (hF i (List.mem_range.1 hi)).1
end
end Go.Proofs.YtbbocbdoiealoaaGreatDoor
