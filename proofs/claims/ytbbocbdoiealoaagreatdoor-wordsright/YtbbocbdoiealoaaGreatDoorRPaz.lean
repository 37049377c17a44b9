import Derived.Maps.RangeRun
import Derived.Test.YtbbocbdoiealoaaGreatDoorRPaw
import Derived.Shelf.Strings.OnBuilder
import Derived.Test.YtbbocbdoiealoaaGreatDoorRPaa
import Derived.Test.YtbbocbdoiealoaaGreatDoorRUb
set_option linter.unusedVariables false
set_option linter.unusedSimpArgs false
namespace Go.Proofs.YtbbocbdoiealoaaGreatDoor
open Go.RowKit Go.Maps
def ofS (v : Int) : Option (Bs × Rw) := rowL.find? (fun p => decide (p.2.verb = v))
theorem verbs_nodup : (rowL.map (fun p => p.2.verb)).Nodup := by decide
theorem nodup_inj {α β : Type} {f : α → β} : ∀ {L : List α}, (L.map f).Nodup → ∀ {p q : α}, p ∈ L → q ∈ L → f p = f q → p = q
  | [], _, p, q, hp, _, _ => by cases hp
  | x :: t, hd, p, q, hp, hq, e => by
    simp only [List.map_cons, List.nodup_cons] at hd
    rcases List.mem_cons.1 hp with h1 | h1
    · rcases List.mem_cons.1 hq with h2 | h2
      · rw [h1, h2]
      · exact absurd (by rw [← h1, e]; exact List.mem_map_of_mem h2) hd.1
    · rcases List.mem_cons.1 hq with h2 | h2
      · exact absurd (by rw [← h2, ← e]; exact List.mem_map_of_mem h1) hd.1
      · exact nodup_inj hd.2 h1 h2 e
theorem ofS_some {v : Int} {p : Bs × Rw} (hp : p ∈ rowL) (hv : p.2.verb = v) : ofS v = some p := by
  cases h : ofS v with
  | none =>
    have := List.find?_eq_none.1 h p hp
    simp [hv] at this
  | some q =>
    have h1 := List.mem_of_find?_eq_some h
    have h2 := List.find?_some h
    simp at h2
    rw [nodup_inj verbs_nodup hp h1 (by rw [hv, h2])]
theorem ofS_none {v : Int} (h : ∀ p ∈ rowL, p.2.verb ≠ v) : ofS v = none := by
  rw [ofS, List.find?_eq_none]
  intro p hp
  simp [h p hp]
theorem res21 {w : World} {b : Nat} {c0 c1 c2 c3 c4 u v : Value} (h : Box w 151 b #[c0, c1, c2, c3, c4]) (tmps : Array Value) (h4 : tmps[4]?.getD undef = u) (h5 : tmps[5]?.getD undef = .pointer (some ⟨b, 0, none⟩)) (h6 : tmps[6]?.getD undef = v) : (results Tryz.f129 tmps).run Tryz.prog w = .ok (.tuple #[u, .agg #[c0, c1, c2, c3, c4], v]) w := by
  have hr : Tryz.f129.results = #[.tmp 4, .cell 5 151, .tmp 6] := rfl
  have p0 := h.cell 0
  have p1 := h.cell 1
  have p2 := h.cell 2
  have p3 := h.cell 3
  have p4 := h.cell 4
  simp at p0 p1 p2 p3 p4
  unfold results
  simp [hr, h4, h5, h6, go_sem, p0, p1, p2, p3, p4]
theorem gb_block {w : World} {r : Nat} (o' : Obj) : w.grownBy (Go.ChangeMaps.setBlock w r o') (some r) := grownBy_putObj' w r o'
theorem es_born {L : List (Bs × Rw)} : ((ents L).map (·.born)) = List.range L.length := by
  apply List.ext_getElem?
  intro i
  rw [List.getElem?_map, ents_get]
  by_cases h : i < L.length
  · rw [List.getElem?_range h, List.getElem?_eq_getElem h]; rfl
  · rw [List.getElem?_eq_none (by omega), List.getElem?_eq_none (by simp; omega)]; rfl
theorem ents_at {L : List (Bs × Rw)} {e : MapEntry} (h : e ∈ ents L) : ∃ p j, L[j]? = some p ∧ e = ⟨sv p.1, rv p.2, j⟩ := by
  obtain ⟨j, hj⟩ := List.mem_iff_getElem?.1 h
  rw [ents_get] at hj
  cases hp : L[j]? with
  | none => simp [hp] at hj
  | some p => simp [hp] at hj; exact ⟨p, j, hp, hj.symm⟩
def seenL (w : World) (b : Nat) : Array Nat := match w.heap[b]? with | some (.mapIter _ _ s _) => s | _ => #[]
set_option maxRecDepth 100000 in
set_option maxHeartbeats 4000000 in
theorem of_21 {w : World} {gb : Nat} (hG : GM w gb rowL) (v : Int) :
    Calls Tryz.prog 129 #[.map (some gb), .int .i64 v] w fun e w' => e = .returned (.tuple #[sv ((ofS v).map Prod.fst |>.getD []), rv ((ofS v).map Prod.snd |>.getD ⟨0, [], [], false, false⟩), .bool (ofS v).isSome]) ∧ w.grownBy w' none := by
  have hgA := gb_alloc (gb_refl w none) (.cells #[.int .i64 0, .string ⟨#[]⟩, .string ⟨#[]⟩, .bool false, .bool false] 151)
  have hbA := Box.new w 151 #[.int .i64 0, .string ⟨#[]⟩, .string ⟨#[]⟩, .bool false, .bool false]
  have hGA := hG.kept hgA (by simp)
  have hrg := run_range_map (P := Tryz.prog) _ 122 9 151 gb _ _ Tryz.underlying122 hGA
  go_enter Tryz.func129, Tryz.ntmps129
  go_wp2
  go_loopw [] (fun wr => ∃ seen c0, wr.heap[w.heap.size + 1]? = some (.mapIter (some gb) rowL.length seen c0) ∧ rowL.length ≤ c0 ∧ w.grownBy wr none ∧ Box wr 151 w.heap.size #[.int .i64 0, .string ⟨#[]⟩, .string ⟨#[]⟩, .bool false, .bool false] ∧ GM wr gb rowL ∧ (∀ j p, rowL[j]? = some p → seen.contains j = true → p.2.verb ≠ v)) (fun wr => (leftOf (ents rowL).toArray (seenL wr (w.heap.size + 1))).size)
  case atStart =>
    have hg2 := gb_alloc (gb_refl (w.alloc (.cells #[.int .i64 0, .string ⟨#[]⟩, .string ⟨#[]⟩, .bool false, .bool false] 151)) none) (.mapIter (some gb) rowL.length #[] rowL.length)
    refine ⟨#[], rowL.length, ?_, Nat.le_refl _, gb_trans hgA hg2, hbA.kept hg2 (by simp), hGA.kept hg2 (by simp), fun j p _ h => by simp at h⟩
    have := heap_alloc_new (w.alloc (.cells #[.int .i64 0, .string ⟨#[]⟩, .string ⟨#[]⟩, .bool false, .bool false] 151)) (.mapIter (some gb) rowL.length #[] rowL.length)
    simpa using this
  case round =>
    obtain ⟨seen, c0, hr, hc0, hgr, hbr, hGr, hno⟩ := hrel
    have hold : ∀ x ∈ (ents rowL).toArray.toList, x.born < rowL.length := by
      intro x hx
      obtain ⟨p, j, hp, rfl⟩ := ents_at (by simpa using hx)
      exact (List.getElem?_eq_some_iff.1 hp).1
    have hnd : ((ents rowL).toArray.toList.map (·.born)).Nodup := by
      rw [List.toList_toArray, es_born]; exact List.nodup_range
    have law := run_next_at (P := Tryz.prog) wr 0 (w.heap.size + 1) gb rowL.length c0 seen (ents rowL).toArray rowL.length hr hGr hold hc0
    have hml : (leftOf (ents rowL).toArray (seenL wr (w.heap.size + 1))).size = (leftOf (ents rowL).toArray seen).size := by simp only [seenL, hr]
    have HML := Lib.hid hml
    clear hml hrg
    rcases law with ⟨h0, hrun⟩ | ⟨e, he, w1, hw1, hrun⟩
    · have hof : Hid (ofS v = none) := by
        refine ofS_none fun p hp => ?_
        obtain ⟨j, hj⟩ := List.mem_iff_getElem?.1 hp
        refine hno j p hj ?_
        have hL := Array.eq_empty_of_size_eq_zero h0
        have hm : (⟨sv p.1, rv p.2, j⟩ : MapEntry) ∈ (ents rowL).toArray := by
          rw [List.mem_toArray]
          exact List.mem_of_getElem? (by rw [ents_get, hj]; rfl)
        rw [leftOf, Array.filter_eq_empty_iff] at hL
        simpa using hL _ hm
      have hnx : ∀ ty, (Instr.next (.pointer (some ⟨w.heap.size + 1, 0, none⟩)) false ty).run Tryz.prog wr = _ := fun _ => hrun
      have r0 : wr.cell? ⟨w.heap.size, 0, none⟩ = some (.int .i64 0) := hbr.cell 0
      have r1 : wr.cell? ⟨w.heap.size, 1, none⟩ = some (.string ⟨#[]⟩) := hbr.cell 1
      have r2 : wr.cell? ⟨w.heap.size, 2, none⟩ = some (.string ⟨#[]⟩) := hbr.cell 2
      have r3 : wr.cell? ⟨w.heap.size, 3, none⟩ = some (.bool false) := hbr.cell 3
      have r4 : wr.cell? ⟨w.heap.size, 4, none⟩ = some (.bool false) := hbr.cell 4
      have z0 := hbr.fz 0
      have z1 := hbr.fz 1
      have z2 := hbr.fz 2
      have z3 := hbr.fz 3
      have z4 := hbr.fz 4
      clear hrun hno h0 hold hnd
      go_wp2
      obtain ⟨hbx, hgx⟩ := box5 (v0 := .int .i64 0) (v1 := .string ⟨#[]⟩) (v2 := .string ⟨#[]⟩) (v3 := .bool false) (v4 := .bool false) hbr
      refine ⟨rfl, _, res21 hbx _ rfl rfl rfl, ?_, gb_mine hgr hgx (Nat.le_refl _)⟩
      rw [show ofS v = none from hof.out]; rfl
    · have hem : e ∈ ents rowL := by
        have := Array.mem_toList_iff.1 he
        rw [leftOf, Array.mem_filter] at this
        simpa using this.1
      have hsh := left_shrinks (ents rowL).toArray seen e he
      obtain ⟨p, j, hpj, rfl⟩ := ents_at hem
      have hw1r : wr.grownBy w1 none := by rcases hw1 with rfl | rfl; exact gb_refl _ _; exact gb_drew (gb_refl _ _)
      have hnx : ∀ ty, (Instr.next (.pointer (some ⟨w.heap.size + 1, 0, none⟩)) false ty).run Tryz.prog wr = _ := fun _ => hrun
      have hlt1 : w.heap.size + 1 < w1.heap.size := Nat.lt_of_lt_of_le (lt_of_block hr) hw1r.size
      have g2 := gb_block (w := w1) (r := w.heap.size + 1) (.mapIter (some gb) rowL.length (seen.push j) rowL.length)
      have hr2 : (Go.ChangeMaps.setBlock w1 (w.heap.size + 1) (.mapIter (some gb) rowL.length (seen.push j) rowL.length)).heap[w.heap.size + 1]? = some (.mapIter (some gb) rowL.length (seen.push j) rowL.length) := World.putObj_heap_same hlt1
      have hgbl := lt_of_block hG
      have hG2 := (hGr.kept hw1r (by simp)).kept g2 (fun e => by injection e with e; omega)
      have hb2 := (hbr.kept hw1r (by simp)).kept g2 (fun e => by injection e with e; omega)
      have hgw2 := gb_mine (gb_trans hgr hw1r) g2 (by omega)
      generalize Go.ChangeMaps.setBlock w1 (w.heap.size + 1) (.mapIter (some gb) rowL.length (seen.push j) rowL.length) = W2 at g2 hr2 hG2 hb2 hgw2 hnx
      have hent := run_entry_at (P := Tryz.prog) W2 (w.heap.size + 1) gb rowL.length seen (ents rowL).toArray rowL.length ⟨sv p.1, rv p.2, j⟩ hr2 hG2 (by simpa using hem) hnd
      obtain ⟨nm, pv, pw, pm, pe, pq⟩ := p
      have b3 := Box.new W2 151 #[.int .i64 pv, .string ⟨pw.toArray⟩, .string ⟨pm.toArray⟩, .bool pe, .bool pq]
      have hgB := gb_alloc (gb_refl W2 none) (.cells #[.int .i64 pv, .string ⟨pw.toArray⟩, .string ⟨pm.toArray⟩, .bool pe, .bool pq] 151)
      have hb3 := hb2.kept hgB (by simp)
      have hlt := hb2.lt
      by_cases hv : pv = v
      · have hof : Hid (ofS v = some (nm, ⟨pv, pw, pm, pe, pq⟩)) := ofS_some (List.mem_of_getElem? hpj) hv
        subst hv
        clear hrun hno hold hnd
        go_wp2
        generalize W2.alloc (.cells #[.int .i64 pv, .string ⟨pw.toArray⟩, .string ⟨pm.toArray⟩, .bool pe, .bool pq] 151) = W3 at b3 hgB hb3 ⊢
        have y0 : W3.cell? ⟨W2.heap.size, 0, none⟩ = some (.int .i64 pv) := b3.cell 0
        have y1 : W3.cell? ⟨W2.heap.size, 1, none⟩ = some (sv pw) := b3.cell 1
        have y2 : W3.cell? ⟨W2.heap.size, 2, none⟩ = some (sv pm) := b3.cell 2
        have y3 : W3.cell? ⟨W2.heap.size, 3, none⟩ = some (.bool pe) := b3.cell 3
        have y4 : W3.cell? ⟨W2.heap.size, 4, none⟩ = some (.bool pq) := b3.cell 4
        have r0 : W3.cell? ⟨w.heap.size, 0, none⟩ = some (.int .i64 0) := hb3.cell 0
        have r1 : W3.cell? ⟨w.heap.size, 1, none⟩ = some (.string ⟨#[]⟩) := hb3.cell 1
        have r2 : W3.cell? ⟨w.heap.size, 2, none⟩ = some (.string ⟨#[]⟩) := hb3.cell 2
        have r3 : W3.cell? ⟨w.heap.size, 3, none⟩ = some (.bool false) := hb3.cell 3
        have r4 : W3.cell? ⟨w.heap.size, 4, none⟩ = some (.bool false) := hb3.cell 4
        have z0 := hb3.fz 0
        have z1 := hb3.fz 1
        have z2 := hb3.fz 2
        have z3 := hb3.fz 3
        have z4 := hb3.fz 4
        have hne1 : ¬ W2.heap.size = w.heap.size := by omega
        have hne2 : ¬ w.heap.size = W2.heap.size := by omega
        clear hnx hent hr hr2 hG hGr hG2 hGA hgA hbA hb2 hbr hsh HML
        go_region_held3 (fun W : World => W.cell? ⟨W2.heap.size, 0, none⟩ = some (.int .i64 pv) ∧ W.cell? ⟨W2.heap.size, 1, none⟩ = some (sv pw) ∧ W.cell? ⟨W2.heap.size, 2, none⟩ = some (sv pm) ∧ W.cell? ⟨W2.heap.size, 3, none⟩ = some (.bool pe) ∧ W.cell? ⟨W2.heap.size, 4, none⟩ = some (.bool pq)) (go_keep) ((fail))
        obtain ⟨hbx, hgx⟩ := box5 (v0 := .int .i64 pv) (v1 := .string ⟨pw.toArray⟩) (v2 := .string ⟨pm.toArray⟩) (v3 := .bool pe) (v4 := .bool pq) hb3
        generalize ((((W3.setCell ⟨w.heap.size, 0, none⟩ (.int .i64 pv)).setCell ⟨w.heap.size, 1, none⟩ (.string ⟨pw.toArray⟩)).setCell ⟨w.heap.size, 2, none⟩ (.string ⟨pm.toArray⟩)).setCell ⟨w.heap.size, 3, none⟩ (.bool pe)).setCell ⟨w.heap.size, 4, none⟩ (.bool pq) = WE at hbx hgx ⊢
        clear y0 y1 y2 y3 y4 r0 r1 r2 r3 r4 z0 z1 z2 z3 z4
        go_wp2
        have hbD : Box WE.drew 151 w.heap.size #[.int .i64 pv, .string ⟨pw.toArray⟩, .string ⟨pm.toArray⟩, .bool pe, .bool pq] := hbx.kept (gb_drew (gb_refl _ none)) (by simp)
        refine ⟨rfl, _, res21 hbD _ rfl rfl rfl, ?_, gb_drew (gb_mine (gb_trans hgw2 hgB) hgx (Nat.le_refl _))⟩
        rw [show ofS pv = some (nm, ⟨pv, pw, pm, pe, pq⟩) from hof.out]; rfl
      · have hvb : (pv == v) = false := beq_eq_false_iff_ne.2 hv
        clear hrun hold hnd
        go_wp2
        refine ⟨⟨seen.push j, rowL.length, (hgB.block _ (lt_of_block hr2) (by simp)).trans hr2, Nat.le_refl _, gb_trans hgw2 hgB, hb3, hG2.kept hgB (by simp), ?_⟩, ?_⟩
        · intro i q hq hc
          by_cases hij : i = j
          · subst hij
            rw [hpj] at hq
            injection hq with hq
            subst hq
            exact hv
          · refine hno i q hq ?_
            simpa [hij] using hc
        · have hs2 : seenL (W2.alloc (.cells #[.int .i64 pv, .string ⟨pw.toArray⟩, .string ⟨pm.toArray⟩, .bool pe, .bool pq] 151)) (w.heap.size + 1) = seen.push j := by
            simp only [seenL]
            rw [(hgB.block _ (lt_of_block hr2) (by simp)).trans hr2]
          rw [hs2, HML.out]
          exact hsh
end Go.Proofs.YtbbocbdoiealoaaGreatDoor
namespace Go.Proofs.YtbbocbdoiealoaaGreatDoor
open Go.RowKit Go.Shelf
set_option maxRecDepth 100000
def layJ_ren : Go.Shelf.Ren := ⟨fun | 156 => 132 | 165 => 156 | 166 => 157 | 169 => 158 | 240 => 170 | 241 => 171 | 276 => 184 | 277 => 185 | n => n, fun | 31 => 36 | 9 => 9 | 3 => 3 | 4 => 4 | 0 => 0 | 20 => 20 | 72 => 201 | 76 => 205 | 70 => 199 | 37 => 38 | 75 => 204 | 127 => 217 | 164 => 226 | 5 => 5 | 80 => 207 | n => n, fun | n => n⟩
theorem layJ : Go.Proofs.Lays.n156 Tryz.prog layJ_ren where
  mixed := by kernel_rfl
  f156 := Tryz.func132.trans (congrArg some (by kernel_rfl))
  f165 := Tryz.func156.trans (congrArg some (by kernel_rfl))
  f166 := Tryz.func157.trans (congrArg some (by kernel_rfl))
  f169 := Tryz.func158.trans (congrArg some (by kernel_rfl))
  f240 := Tryz.func170.trans (congrArg some (by kernel_rfl))
  f241 := Tryz.func171.trans (congrArg some (by kernel_rfl))
  f276 := Tryz.func184.trans (congrArg some (by kernel_rfl))
  f277 := Tryz.func185.trans (congrArg some (by kernel_rfl))
  t0 := Tryz.underlying0
  a0 := Tryz.isAgg0
  z0 := Tryz.sizeOf0
  v0 := Tryz.zeroValue0
  t3 := Tryz.underlying3
  a3 := Tryz.isAgg3
  z3 := Tryz.sizeOf3
  v3 := Tryz.zeroValue3
  t4 := Tryz.underlying4
  a4 := Tryz.isAgg4
  z4 := Tryz.sizeOf4
  v4 := Tryz.zeroValue4
  t9 := Tryz.underlying9
  a9 := Tryz.isAgg9
  z9 := Tryz.sizeOf9
  v9 := Tryz.zeroValue9
  t20 := Tryz.underlying20
  a20 := Tryz.isAgg20
  z20 := Tryz.sizeOf20
  v20 := Tryz.zeroValue20
  t31 := Tryz.underlying36
  a31 := Tryz.isAgg36
  z31 := Tryz.sizeOf36
  v31 := Tryz.zeroValue36
  t37 := Tryz.underlying38
  a37 := Tryz.isAgg38
  z37 := Tryz.sizeOf38
  v37 := Tryz.zeroValue38
  t70 := Tryz.underlying199
  a70 := Tryz.isAgg199
  z70 := Tryz.sizeOf199
  v70 := Tryz.zeroValue199
  t72 := Tryz.underlying201
  a72 := Tryz.isAgg201
  z72 := Tryz.sizeOf201
  v72 := Tryz.zeroValue201
  t75 := Tryz.underlying204
  a75 := Tryz.isAgg204
  z75 := Tryz.sizeOf204
  v75 := Tryz.zeroValue204
  t76 := Tryz.underlying205
  a76 := Tryz.isAgg205
  z76 := Tryz.sizeOf205
  v76 := Tryz.zeroValue205
  t127 := Tryz.underlying217
  a127 := Tryz.isAgg217
  z127 := Tryz.sizeOf217
  v127 := Tryz.zeroValue217
  t164 := Tryz.underlying226
  a164 := Tryz.isAgg226
  z164 := Tryz.sizeOf226
  v164 := Tryz.zeroValue226
theorem layJX : Builder.Extra Tryz.prog layJ_ren where
  sizeBuilder := by kernel_rfl
  liesBuilder := by kernel_rfl
  t5 := Tryz.underlying5
  a5 := Tryz.isAgg5
  z5 := Tryz.sizeOf5
  v5 := Tryz.zeroValue5
  infoByte := by kernel_rfl
  cellsByte := by kernel_rfl
  sizeByte := by kernel_rfl
  neB5 := by decide
end Go.Proofs.YtbbocbdoiealoaaGreatDoor
namespace Go.Proofs.YtbbocbdoiealoaaGreatDoor
open Go.RowKit Go.Shelf
set_option maxRecDepth 100000 in
set_option maxHeartbeats 4000000 in
theorem must_K (c : Cmd) (kv dv mv : Value) (lg : Bool) (w : World) (h1 : ∃ a n c', kv = .slice a n c') (h2 : ∃ a n c', dv = .slice a n c') (h3 : ∃ a n c', mv = .slice a n c') :
    Calls Tryz.prog 130 #[.agg (cmB c kv dv mv lg), .int .u8 75] w fun e w' => e = .returned kv ∧ w.grownBy w' none := by
  obtain ⟨a1, n1, c1, rfl⟩ := h1
  obtain ⟨a2, n2, c2, rfl⟩ := h2
  obtain ⟨a3, n3, c3, rfl⟩ := h3
  go_enter Tryz.func130, Tryz.ntmps130
  go_wp2
  go_ret
  exact ⟨rfl, gb_alloc (gb_refl _ _) _⟩
set_option maxRecDepth 100000 in
set_option maxHeartbeats 4000000 in
theorem might_K (c : Cmd) (kv dv mv : Value) (lg : Bool) (w : World) (h1 : ∃ a n c', kv = .slice a n c') (h2 : ∃ a n c', dv = .slice a n c') (h3 : ∃ a n c', mv = .slice a n c') :
    Calls Tryz.prog 131 #[.agg (cmB c kv dv mv lg), .int .u8 75] w fun e w' => e = .returned (.slice none 0 0) ∧ w.grownBy w' none := by
  obtain ⟨a1, n1, c1, rfl⟩ := h1
  obtain ⟨a2, n2, c2, rfl⟩ := h2
  obtain ⟨a3, n3, c3, rfl⟩ := h3
  go_enter Tryz.func131, Tryz.ntmps131
  go_wp2
  go_ret
  exact ⟨rfl, gb_alloc (gb_refl _ _) _⟩
theorem join_24 (g o c : Nat) (ws : List Bs) (w : World) (hg : g < w.heap.size) (hn : ws.length ≤ 1000000000) (hc : ws.length ≤ c) (hcell : ∀ i x, ws[i]? = some x → w.cell? ⟨g, o + i, none⟩ = some (sv x)) (hl : (Lib.join ws [32]).length ≤ 140737488355328) :
    Calls Tryz.prog 132 #[.slice (some ⟨g, o, none⟩) ws.length c, .string ⟨#[32]⟩] w fun e w' => e = .returned (sv (Lib.join ws [32])) ∧ w.grownBy w' none := by
  have hm : (ws.map (fun x => (ByteArray.mk x.toArray))).map (·.data.toList) = ws := by simp [Function.comp_def]
  have := Any.strings_Join layJ layJX g o c (ws.map fun x => ByteArray.mk x.toArray) ⟨#[32]⟩ w (fun j x hx => by
    rw [List.getElem?_map] at hx
    cases hw : ws[j]? with
    | none => simp [hw] at hx
    | some y => simp [hw] at hx; subst hx; exact hcell j y hw) hg (by simp; omega) (by simpa using hc) (by rw [hm]; exact hl)
  rw [hm, List.length_map] at this
  exact this.mono fun e w' ⟨h1, h2⟩ => ⟨h1, gb_below h2⟩
end Go.Proofs.YtbbocbdoiealoaaGreatDoor
