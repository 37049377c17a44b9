import Derived.Shelf.LaysM
import Derived.Shelf.Strconv.Itoa3
import Derived.Lib.AppendIntMem
import Derived.Test.YtobegepebochkaaGreatDoorVPbb
import Derived.Test.YtobegepebochkaaGreatDoorVPaw
import Derived.Test.YtobegepebochkaaGreatDoorVPar
import Derived.Test.YtobegepebochkaaGreatDoorVPaq
import Derived.Test.YtobegepebochkaaGreatDoorVGe
import Derived.Test.YtobegepebochkaaGreatDoorVPas
set_option linter.unusedVariables false
set_option linter.unusedSimpArgs false
namespace Go.Proofs.YtobegepebochkaaGreatDoor
open Go.RowKit Go.Shelf Go.Sort
set_option maxRecDepth 100000
def layItoa_ren : Go.Shelf.Ren := ⟨fun | 171 => 150 | 243 => 164 | 246 => 178 | 283 => 174 | 284 => 175 | 285 => 176 | 286 => 177 | 129 => 193 | 317 => 192 | 318 => 194 | 319 => 195 | 320 => 196 | 337 => 201 | 338 => 202 | n => n, fun | 3 => 3 | 9 => 9 | 2 => 2 | 4 => 4 | 171 => 217 | 0 => 0 | 53 => 37 | 37 => 38 | 5 => 5 | 173 => 220 | 212 => 237 | 51 => 238 | 20 => 20 | 213 => 239 | 46 => 227 | 232 => 253 | 233 => 254 | n => n, fun | 17 => 1 | 18 => 6 | 19 => 7 | n => n⟩
theorem layItoa : Go.Proofs.LaysM.n171 Tryz.prog layItoa_ren where
  mixed := by kernel_rfl
  f129 := Tryz.func193.trans (congrArg some (by kernel_rfl))
  f171 := Tryz.func150.trans (congrArg some (by kernel_rfl))
  f243 := Tryz.func164.trans (congrArg some (by kernel_rfl))
  f246 := Tryz.func178.trans (congrArg some (by kernel_rfl))
  f283 := Tryz.func174.trans (congrArg some (by kernel_rfl))
  f284 := Tryz.func175.trans (congrArg some (by kernel_rfl))
  f285 := Tryz.func176.trans (congrArg some (by kernel_rfl))
  f286 := Tryz.func177.trans (congrArg some (by kernel_rfl))
  f317 := Tryz.func192.trans (congrArg some (by kernel_rfl))
  f318 := Tryz.func194.trans (congrArg some (by kernel_rfl))
  f319 := Tryz.func195.trans (congrArg some (by kernel_rfl))
  f320 := Tryz.func196.trans (congrArg some (by kernel_rfl))
  f337 := Tryz.func201.trans (congrArg some (by kernel_rfl))
  f338 := Tryz.func202.trans (congrArg some (by kernel_rfl))
  t0 := Tryz.underlying0
  a0 := Tryz.isAgg0
  z0 := Tryz.sizeOf0
  v0 := Tryz.zeroValue0
  t2 := Tryz.underlying2
  a2 := Tryz.isAgg2
  z2 := Tryz.sizeOf2
  v2 := Tryz.zeroValue2
  t3 := Tryz.underlying3
  a3 := Tryz.isAgg3
  z3 := Tryz.sizeOf3
  v3 := Tryz.zeroValue3
  t4 := Tryz.underlying4
  a4 := Tryz.isAgg4
  z4 := Tryz.sizeOf4
  v4 := Tryz.zeroValue4
  t5 := Tryz.underlying5
  a5 := Tryz.isAgg5
  z5 := Tryz.sizeOf5
  v5 := Tryz.zeroValue5
  t9 := Tryz.underlying9
  a9 := Tryz.isAgg9
  z9 := Tryz.sizeOf9
  v9 := Tryz.zeroValue9
  t20 := Tryz.underlying20
  a20 := Tryz.isAgg20
  z20 := Tryz.sizeOf20
  v20 := Tryz.zeroValue20
  t37 := Tryz.underlying38
  a37 := Tryz.isAgg38
  z37 := Tryz.sizeOf38
  v37 := Tryz.zeroValue38
  t46 := Tryz.underlying227
  a46 := Tryz.isAgg227
  z46 := Tryz.sizeOf227
  v46 := Tryz.zeroValue227
  t51 := Tryz.underlying238
  a51 := Tryz.isAgg238
  z51 := Tryz.sizeOf238
  v51 := Tryz.zeroValue238
  t53 := Tryz.underlying37
  a53 := Tryz.isAgg37
  z53 := Tryz.sizeOf37
  v53 := Tryz.zeroValue37
  t171 := Tryz.underlying217
  a171 := Tryz.isAgg217
  z171 := Tryz.sizeOf217
  v171 := Tryz.zeroValue217
  t173 := Tryz.underlying220
  a173 := Tryz.isAgg220
  z173 := Tryz.sizeOf220
  v173 := Tryz.zeroValue220
  t212 := Tryz.underlying237
  a212 := Tryz.isAgg237
  z212 := Tryz.sizeOf237
  v212 := Tryz.zeroValue237
  t213 := Tryz.underlying239
  a213 := Tryz.isAgg239
  z213 := Tryz.sizeOf239
  t232 := Tryz.underlying253
  a232 := Tryz.isAgg253
  z232 := Tryz.sizeOf253
  v232 := Tryz.zeroValue253
  t233 := Tryz.underlying254
  a233 := Tryz.isAgg254
  z233 := Tryz.sizeOf254
  v233 := Tryz.zeroValue254
  g17 := by kernel_rfl
  g18 := by kernel_rfl
  g19 := by kernel_rfl
  i0 := by kernel_rfl
  i2 := by kernel_rfl
  i3 := by kernel_rfl
  i4 := by kernel_rfl
  i5 := by kernel_rfl
  i9 := by kernel_rfl
  i20 := by kernel_rfl
  i37 := by kernel_rfl
  i46 := by kernel_rfl
  i51 := by kernel_rfl
  i53 := by kernel_rfl
  i171 := by kernel_rfl
  i173 := by kernel_rfl
  i212 := by kernel_rfl
  i232 := by kernel_rfl
  i233 := by kernel_rfl
  m17 := by kernel_rfl
  m18 := by kernel_rfl
  m19 := by kernel_rfl
def Pw (w : World) : Prop := ∀ s, (Tryz.prog.globals[1]?).map (fun g => g.name) = some s → Lib.TabIs Tryz.prog w s .u64 Lib.pow10Tab
theorem gb_grow (w : World) (k : Nat) (os : Array Obj) : w.grownBy (grow (w.drewN k) os) none :=
  ⟨rfl, rfl, rfl, by simp [grow], fun i hi _ => by simp [grow, Array.getElem?_append, hi]⟩
theorem dec_dg : ∀ n, Lib.decDigits n = dg n := by
  intro n
  induction n using Nat.strongRecOn with
  | _ n ih =>
    by_cases h : n < 10
    · rw [Lib.decDigits, dif_pos h, dg_lo n h]
      rfl
    · rw [Lib.decDigits, dif_neg h, dg_hi n h, ih (n / 10) (by omega), dg_lo (n % 10) (by omega)]
      rfl
theorem itoa_sg (t : Int) : Lib.itoa t = sg t := by
  unfold Lib.itoa sg
  split
  · rw [dec_dg]
  · rw [dec_dg, show t.toNat = t.natAbs by omega]
theorem itoa_150 (n : Int) (h0 : -9223372036854775808 ≤ n) (h1 : n ≤ 9223372036854775807) (w : World) (hp : Pw w) :
    Calls Tryz.prog 150 #[.int .i64 n] w fun e w' => e = .returned (sv (sg n)) ∧ w.grownBy w' none := by
  refine (Any.strconv_Itoa layItoa n h0 h1 w (hp _ (by kernel_rfl))).mono ?_
  rintro e w' ⟨rfl, k, os, rfl⟩
  exact ⟨by rw [itoa_sg], gb_grow _ _ _⟩
theorem cv_fmt {w : World} {u k v' : Nat} {dk : Array UInt8} (hF : Lib.FmtInv (Lib.nDigits u) u 0 v' dk) (hH0 : Holds (fun (b : UInt8) => Value.int .u8 (b.toNat : Int)) (w.alloc (.cells Lib.zeros24 217)) w.heap.size 0 (Array.replicate (Lib.nDigits u) 0)) :
    (convert 38 9 (.slice (some ⟨w.heap.size, 0, none⟩) (Lib.nDigits u) 24)).run Tryz.prog ((putRow (fun (b : UInt8) => Value.int .u8 (b.toNat : Int)) (w.alloc (.cells Lib.zeros24 217)) w.heap.size 0 dk).drewN k) = .ok (.string ⟨(Lib.decDigits u).toArray⟩) ((putRow (fun (b : UInt8) => Value.int .u8 (b.toNat : Int)) (w.alloc (.cells Lib.zeros24 217)) w.heap.size 0 dk).drewN k) := by
  have h := run_convert_bytes_back (P := Tryz.prog) ((putRow (fun (b : UInt8) => Value.int .u8 (b.toNat : Int)) (w.alloc (.cells Lib.zeros24 217)) w.heap.size 0 dk).drewN k) 38 9 5 ⟨w.heap.size, 0, none⟩ 24 (Lib.decDigits u) Tryz.underlying38 Tryz.underlying5 Tryz.underlying9 (fun j hj => by
    rw [Lib.row_is_numeral hF j hj, Lib.add_plain, World.cell?_drewN]
    exact cell?_putRow (fun (b : UInt8) => Value.int .u8 (b.toNat : Int)) _ w.heap.size 0 _ dk hH0 (by rw [hF.size, Array.size_replicate]) j (by rw [hF.size]; rw [Lib.decDigits_length] at hj; exact hj))
  rw [Lib.decDigits_length] at h
  exact h
set_option maxHeartbeats 4000000 in
theorem fmtu_163 (u : Nat) (hu : u ≤ 18446744073709551615) (w : World) (hp : Pw w) :
    Calls Tryz.prog 163 #[.int .u64 u, .int .i64 10] w fun e w' => e = .returned (sv (dg u)) ∧ w.grownBy w' none := by
  have L := layItoa
  by_cases hs : u < 100
  · have h283 := fun W => Any.internal_strconv_small { L with } u hs W
    have d1 : decide ((u : Int) < 100) = true := decide_eq_true (by omega)
    have hw : IntKind.i64.wrap (u : Int) = (u : Int) := by rw [IntKind.wrap_i64]; omega
    go_enter Tryz.func163, Tryz.ntmps163
    go_wp2_with (go_at_call 174; go_must (refine (h283 _).mono ?_); rintro e w' ⟨rfl, rfl⟩)
    go_ret
    exact ⟨by rw [dec_dg]; rfl, gb_refl _ _⟩
  · have hu1 : 1 ≤ u := by omega
    have hu64 : u < 18446744073709551616 := by omega
    have hnd20 : Lib.nDigits u ≤ 20 := by have := Lib.numDigits_eq u hu1 hu64; split at this <;> omega
    have d1 : decide ((u : Int) < 100) = false := decide_eq_false (by omega)
    have hal : Tryz.prog.arrayLen 217 = 24 := by kernel_rfl
    have hsl : ∀ W, (Instr.sliceAt 217 (.pointer (some ⟨w.heap.size, 0, none⟩)) none (some (.int .i64 (Lib.nDigits u : Int))) none).run Tryz.prog W = .ok (.slice (some ⟨w.heap.size, 0, none⟩) (Lib.nDigits u) 24) W := fun W => by
      rw [run_sliceAt_array_h W 217 ⟨w.heap.size, 0, none⟩ (by simp [Program.arrayLen, Program.elem, Tryz.underlying217]) .i64 (Lib.nDigits u : Int) (by omega) (by rw [hal]; omega)]
      go_simp
    have hH0 := Lib.holds_zero0 w 217 (Lib.nDigits u) (by omega)
    have hfmt := Any.internal_strconv_formatBase10 { L with } w.heap.size 0 24 u (Array.replicate (Lib.nDigits u) 0) (w.alloc (.cells Lib.zeros24 217)) hH0 (by rw [Array.size_replicate]; exact Lib.lt_pow_nDigits u) hu64 (by rw [Array.size_replicate]; omega)
    rw [Array.size_replicate] at hfmt
    have hnd := Any.internal_strconv_numDigits { L with } u hu1 hu64 (w.alloc (.cells Lib.zeros24 217)) (Lib.tabIs_alloc (hp _ (by kernel_rfl)) _)
    have HH0 := Lib.hid hH0
    clear hH0 hal
    go_enter Tryz.func163, Tryz.ntmps163
    go_wp2_with (first
      | (go_at_call 175; go_must (refine hnd.mono ?_); rintro e w' ⟨rfl, rfl⟩)
      | (go_at_call 176; go_must (refine hfmt.mono ?_); rintro e w' ⟨rfl, k, v', dk, rfl, hF⟩; have hcv := cv_fmt (k := k) hF HH0.out; clear hF))
    go_ret
    obtain ⟨os, eo⟩ := Lib.fin_at w (.cells Lib.zeros24 217) dk k 0
    refine ⟨by rw [dec_dg]; rfl, ?_⟩
    rw [eo]
    exact gb_grow _ _ _
theorem fmtu_149 (u : Nat) (hu : u ≤ 18446744073709551615) (w : World) (hp : Pw w) :
    Calls Tryz.prog 149 #[.int .u64 u, .int .i64 10] w fun e w' => e = .returned (sv (dg u)) ∧ w.grownBy w' none := by
  have h163 := fmtu_163 u hu w hp
  go_enter Tryz.func149, Tryz.ntmps149
  go_wp2_with (go_at_call 163; go_must (refine h163.mono ?_); rintro e w' ⟨rfl, g⟩)
  go_ret
  exact ⟨rfl, g⟩
theorem Pw.kept {w w' : World} (h : Pw w) (hf : w.grownBy w' none) : Pw w' := by
  intro s hs
  have h := h s hs
  unfold Lib.TabIs World.var? at *
  cases hg : Tryz.prog.globalNamed s with
  | none => simp [hg] at h
  | some g =>
    simp only [hg, Option.bind_some] at h ⊢
    cases hb : w.heap[g]? with
    | none => simp [hb] at h
    | some o =>
      have e := hf.block g (Array.getElem?_eq_some_iff.1 hb).1 (by simp)
      rw [e]
      exact h
end Go.Proofs.YtobegepebochkaaGreatDoor
namespace Go.Proofs.YtobegepebochkaaGreatDoor
open Go.RowKit Go.Maps
theorem dg_le : ∀ k n, n < 10 ^ (k + 1) → (dg n).length ≤ k + 1 := by
  intro k
  induction k with
  | zero => intro n h; rw [dg_lo n (by simpa using h)]; simp
  | succ k ih =>
    intro n h
    by_cases h1 : n < 10
    · rw [dg_lo n h1]; simp
    · rw [dg_hi n h1, List.length_append, dg_lo (n % 10) (by omega)]
      have := ih (n / 10) (by rw [Nat.pow_succ] at h; omega)
      simp; omega
theorem dg_20 (n : Nat) (h : n ≤ 18446744073709551615) : (dg n).length ≤ 20 := dg_le 19 n (by omega)
theorem sg_21 (t : Int) (h1 : -9223372036854775808 ≤ t) (h2 : t ≤ 9223372036854775807) : (sg t).length ≤ 21 := by
  have := dg_20 t.natAbs (by omega)
  unfold sg
  split
  · simp; omega
  · omega
set_option maxRecDepth 100000 in
set_option maxHeartbeats 4000000 in
theorem digits64 (n : Nat) : n ≤ 18446744073709551615 → ∀ w : World, Calls Tryz.prog 74 #[.int .u64 n] w fun e w' => e = .returned (sv (dg n)) ∧ w.grownBy w' none := by
  induction n using Nat.strongRecOn with
  | _ n ih =>
    intro hn w
    by_cases h : n < 10
    · exact digits_lo n h w
    · rw [dg_hi n h]
      have h1 := ih (n / 10) (by omega) (by omega)
      have h2 := fun W => digits_lo (n % 10) (by omega) W
      have l1 := dg_20 (n / 10) (by omega)
      have l2 := dg_20 (n % 10) (by omega)
      have hg : decide ((10 : Int) ≤ (n : Int)) = true := by simp; omega
      have hg2 : (10 : Int) ≤ (n : Int) := by omega
      have e1 : (n : Int).tdiv 10 = ((n / 10 : Nat) : Int) := by rw [Int.tdiv_eq_ediv_of_nonneg (by omega)]; rfl
      have e2 : (n : Int).tmod 10 = ((n % 10 : Nat) : Int) := by rw [Int.tmod_eq_emod_of_nonneg (by omega)]; rfl
      have b1 : n / 10 ≤ 1844674407370955161 := by omega
      have b2 : n % 10 < 10 := by omega
      clear ih
      generalize hqa : n / 10 = qa at h1 l1 e1 b1 ⊢
      generalize hqb : n % 10 = qb at h2 l2 e2 b2 ⊢
      clear hqa hqb
      have e3 : IntKind.u64.wrap (qa : Int) = (qa : Int) := by rw [IntKind.wrap_u64]; omega
      have e4 : IntKind.u64.wrap (qb : Int) = (qb : Int) := by rw [IntKind.wrap_u64]; omega
      go_enter Tryz.func74, Tryz.ntmps74
      go_wp2_with fail
      refine (h1 _).mono ?_
      rintro e w1 ⟨rfl, g1⟩
      go_wp2_with fail
      refine (h2 _).mono ?_
      rintro e w2 ⟨rfl, g2⟩
      go_wp2_with fail
      go_ret
      refine ⟨?_, gb_trans g1 g2⟩
      show Ending.returned (Value.string ((⟨(dg qa).toArray⟩ : ByteArray) ++ ⟨(dg qb).toArray⟩)) = Ending.returned (sv (dg qa ++ dg qb))
      rw [ba_app]
set_option maxRecDepth 100000 in
set_option maxHeartbeats 4000000 in
theorem signed_123 (t : Int) (h1 : -9223372036854775808 ≤ t) (h2 : t ≤ 9223372036854775807) (w : World) : Calls Tryz.prog 123 #[.int .i64 t] w fun e w' => e = .returned (sv (sg t)) ∧ w.grownBy w' none := by
  have hd := digits64 t.natAbs (by omega)
  have hl := dg_20 t.natAbs (by omega)
  unfold sg
  by_cases h : t < 0
  · have e1 : IntKind.u64.wrap (-IntKind.u64.wrap t) = ((t.natAbs : Nat) : Int) := by rw [IntKind.wrap_u64, IntKind.wrap_u64]; omega
    have e2 : decide (t < 0) = true := by simpa using h
    rw [if_pos h]
    go_enter Tryz.func123, Tryz.ntmps123
    go_wp2_with fail
    refine (hd _).mono ?_
    rintro e w1 ⟨rfl, g1⟩
    go_wp2_with fail
    go_ret
    refine ⟨?_, g1⟩
    show Ending.returned (Value.string ((⟨#[45]⟩ : ByteArray) ++ ⟨(dg t.natAbs).toArray⟩)) = Ending.returned (sv (45 :: dg t.natAbs))
    rw [show (⟨#[45]⟩ : ByteArray) = ⟨[(45 : UInt8)].toArray⟩ from rfl, ba_app]; rfl
  · have e1 : IntKind.u64.wrap t = ((t.natAbs : Nat) : Int) := by rw [IntKind.wrap_u64]; omega
    have e2 : decide (t < 0) = false := by simpa using h
    rw [if_neg h]
    go_enter Tryz.func123, Tryz.ntmps123
    go_wp2_with fail
    refine (hd _).mono ?_
    rintro e w1 ⟨rfl, g1⟩
    go_wp2_with fail
    go_ret
    exact ⟨rfl, g1⟩
end Go.Proofs.YtobegepebochkaaGreatDoor
namespace Go.Proofs.YtobegepebochkaaGreatDoor
open Go.RowKit Go.Maps
attribute [local go_sem] Oper.semAt_some
abbrev hasV (p0 p1 p2 p3 p4 p5 : Bool) : Array Value := #[.bool p0, .bool p1, .bool p2, .bool p3, .bool p4, .bool p5]
abbrev hasA (s : Bs) : Array Value := hasV (s.contains 75) (s.contains 70) (s.contains 84 || s.contains 83) (s.contains 67) (s.contains 68) (s.contains 71)
theorem res122 {w : World} {b : Nat} {c0 c1 c2 c3 c4 c5 : Value} (h : Box w 177 b #[c0, c1, c2, c3, c4, c5]) (tmps : Array Value) (h2 : tmps[2]?.getD undef = .pointer (some ⟨b, 0, none⟩)) : (results Tryz.f122 tmps).run Tryz.prog w = .ok (.agg #[c0, c1, c2, c3, c4, c5]) w := by
  have hr : Tryz.f122.results = #[.cell 2 177] := rfl
  have p0 := h.cell 0
  have p1 := h.cell 1
  have p2 := h.cell 2
  have p3 := h.cell 3
  have p4 := h.cell 4
  have p5 := h.cell 5
  simp at p0 p1 p2 p3 p4 p5
  unfold results
  simp [hr, h2, go_sem, p0, p1, p2, p3, p4, p5]
theorem size177 : (Tryz.prog.info? 177).map (·.size) = some 6 := by kernel_rfl
theorem sets_177 (u0 u1 u2 u3 u4 u5 v0 v1 v2 v3 v4 v5 : Value) : sets #[u0, u1, u2, u3, u4, u5] 0 [v0, v1, v2, v3, v4, v5] = #[v0, v1, v2, v3, v4, v5] := by
  simp only [sets, List.setIfInBounds_toArray, List.set_cons_zero, List.set_cons_succ]
theorem take_has {s : Bs} {k : Nat} {b : UInt8} (h : s[k]? = some b) (a : UInt8) : (s.take (k + 1)).contains a = ((s.take k).contains a || a == b) := by
  rw [List.take_add_one, h, Option.toList_some, List.contains_append]
  congr 1
  by_cases e : a = b
  · simp [e]
  · simp [e]
set_option maxRecDepth 100000 in
set_option maxHeartbeats 4000000 in
theorem fields_122 (s : Bs) (hs : s.length ≤ 100) (w : World) : Calls Tryz.prog 122 #[sv s] w fun e w' => e = .returned (.agg (hasA s)) ∧ w.grownBy w' none := by
  go_enter Tryz.func122, Tryz.ntmps122
  go_wp2
  go_loopw [4] (fun v wr => ∃ k : Nat, k ≤ s.length ∧ v = .int .i64 k ∧ w.grownBy wr none ∧ Box wr 177 w.heap.size (hasA []) ∧ Box wr 177 (w.heap.size + 1) (hasA (s.take k))) (fun v _ => s.length - (intOf v).toNat)
  case atStart =>
    refine ⟨0, by omega, rfl, gb_alloc (gb_alloc (gb_refl w none) _) _, ?_, ?_⟩
    · exact (Box.new w 177 (hasA [])).kept (row := none) (gb_alloc (gb_refl _ none) _) (by simp)
    · have h := Box.new (w.alloc (.cells (hasA []) 177)) 177 (hasA [])
      have e : (w.alloc (.cells (hasA []) 177)).heap.size = w.heap.size + 1 := by simp
      rw [e] at h
      exact h
  case round =>
    obtain ⟨k, hk, rfl, hg, hb2, hb3⟩ := hrel
    rcases (by omega : k < s.length ∨ k = s.length) with hlt | rfl
    · have d1 : decide ((k : Int) < (s.length : Int)) = true := decide_eq_true (by omega)
      obtain ⟨b, hb⟩ : ∃ b, s.getD k 0 = b := ⟨_, rfl⟩
      have hgt : ∀ h : k < (ByteArray.mk s.toArray).size, (ByteArray.mk s.toArray)[k] = b := fun h => (ba_get s k h).trans hb
      have hget : s[k]? = some b := by rw [List.getElem?_eq_getElem hlt, ← hb]; simp [List.getD, hlt]
      clear hb
      have q0 := hb3.cell 0
      have q1 := hb3.cell 1
      have q2 := hb3.cell 2
      have q3 := hb3.cell 3
      have q4 := hb3.cell 4
      have q5 := hb3.cell 5
      simp only [List.getElem?_toArray, List.getElem?_cons_succ, List.getElem?_cons_zero] at q0 q1 q2 q3 q4 q5
      have z0 := hb3.fz 0
      have z1 := hb3.fz 1
      have z2 := hb3.fz 2
      have z3 := hb3.fz 3
      have z4 := hb3.fz 4
      have z5 := hb3.fz 5
      have hset : ∀ j, w.grownBy (wr.setCell ⟨w.heap.size + 1, j, none⟩ (.bool true)) none ∧ Box (wr.setCell ⟨w.heap.size + 1, j, none⟩ (.bool true)) 177 w.heap.size (hasA []) := fun j =>
        have g := gb_setCell (i := j) (gb_refl wr (some (w.heap.size + 1))) (.bool true)
        ⟨gb_mine hg g (by omega), hb2.kept g (by simp)⟩
      by_cases h75 : b = 75
      · subst h75
        have hn : Box (wr.setCell ⟨w.heap.size + 1, 0, none⟩ (.bool true)) 177 (w.heap.size + 1) (hasA (s.take (k + 1))) := by
          have := hb3.set 0 (.bool true)
          have e : (hasA (s.take k)).setIfInBounds 0 (.bool true) = hasA (s.take (k + 1)) := by simp only [hasA, hasV, take_has hget]; simp
          rwa [e] at this
        clear hget
        go_wp2
        exact ⟨⟨k + 1, by omega, by simp, (hset 0).1, (hset 0).2, hn⟩, by simp [intOf]; omega⟩
      by_cases h70 : b = 70
      · subst h70
        have hn : Box (wr.setCell ⟨w.heap.size + 1, 1, none⟩ (.bool true)) 177 (w.heap.size + 1) (hasA (s.take (k + 1))) := by
          have := hb3.set 1 (.bool true)
          have e : (hasA (s.take k)).setIfInBounds 1 (.bool true) = hasA (s.take (k + 1)) := by simp only [hasA, hasV, take_has hget]; simp
          rwa [e] at this
        clear hget
        go_wp2
        exact ⟨⟨k + 1, by omega, by simp, (hset 1).1, (hset 1).2, hn⟩, by simp [intOf]; omega⟩
      by_cases h84 : b = 84
      · subst h84
        have hn : Box (wr.setCell ⟨w.heap.size + 1, 2, none⟩ (.bool true)) 177 (w.heap.size + 1) (hasA (s.take (k + 1))) := by
          have := hb3.set 2 (.bool true)
          have e : (hasA (s.take k)).setIfInBounds 2 (.bool true) = hasA (s.take (k + 1)) := by simp only [hasA, hasV, take_has hget]; simp
          rwa [e] at this
        clear hget
        go_wp2
        exact ⟨⟨k + 1, by omega, by simp, (hset 2).1, (hset 2).2, hn⟩, by simp [intOf]; omega⟩
      by_cases h83 : b = 83
      · subst h83
        have hn : Box (wr.setCell ⟨w.heap.size + 1, 2, none⟩ (.bool true)) 177 (w.heap.size + 1) (hasA (s.take (k + 1))) := by
          have := hb3.set 2 (.bool true)
          have e : (hasA (s.take k)).setIfInBounds 2 (.bool true) = hasA (s.take (k + 1)) := by simp only [hasA, hasV, take_has hget]; simp
          rwa [e] at this
        clear hget
        go_wp2
        exact ⟨⟨k + 1, by omega, by simp, (hset 2).1, (hset 2).2, hn⟩, by simp [intOf]; omega⟩
      by_cases h67 : b = 67
      · subst h67
        have hn : Box (wr.setCell ⟨w.heap.size + 1, 3, none⟩ (.bool true)) 177 (w.heap.size + 1) (hasA (s.take (k + 1))) := by
          have := hb3.set 3 (.bool true)
          have e : (hasA (s.take k)).setIfInBounds 3 (.bool true) = hasA (s.take (k + 1)) := by simp only [hasA, hasV, take_has hget]; simp
          rwa [e] at this
        clear hget
        go_wp2
        exact ⟨⟨k + 1, by omega, by simp, (hset 3).1, (hset 3).2, hn⟩, by simp [intOf]; omega⟩
      by_cases h68 : b = 68
      · subst h68
        have hn : Box (wr.setCell ⟨w.heap.size + 1, 4, none⟩ (.bool true)) 177 (w.heap.size + 1) (hasA (s.take (k + 1))) := by
          have := hb3.set 4 (.bool true)
          have e : (hasA (s.take k)).setIfInBounds 4 (.bool true) = hasA (s.take (k + 1)) := by simp only [hasA, hasV, take_has hget]; simp
          rwa [e] at this
        clear hget
        go_wp2
        exact ⟨⟨k + 1, by omega, by simp, (hset 4).1, (hset 4).2, hn⟩, by simp [intOf]; omega⟩
      by_cases h71 : b = 71
      · subst h71
        have hn : Box (wr.setCell ⟨w.heap.size + 1, 5, none⟩ (.bool true)) 177 (w.heap.size + 1) (hasA (s.take (k + 1))) := by
          have := hb3.set 5 (.bool true)
          have e : (hasA (s.take k)).setIfInBounds 5 (.bool true) = hasA (s.take (k + 1)) := by simp only [hasA, hasV, take_has hget]; simp
          rwa [e] at this
        clear hget
        go_wp2
        exact ⟨⟨k + 1, by omega, by simp, (hset 5).1, (hset 5).2, hn⟩, by simp [intOf]; omega⟩
      have hne : ∀ a : UInt8, b ≠ a → ((b.toNat : Int) == (a.toNat : Int)) = false := fun a h => beq_eq_false_iff_ne.mpr fun e => h (UInt8.toNat_inj.1 (by omega))
      have n75 := hne 75 h75
      have n70 := hne 70 h70
      have n84 := hne 84 h84
      have n83 := hne 83 h83
      have n67 := hne 67 h67
      have n68 := hne 68 h68
      have n71 := hne 71 h71
      simp only [UInt8.reduceToNat, Int.cast_ofNat_Int] at n75 n70 n84 n83 n67 n68 n71
      have hn : Box wr 177 (w.heap.size + 1) (hasA (s.take (k + 1))) := by
        have e : hasA (s.take k) = hasA (s.take (k + 1)) := by
          have n1 : ∀ a : UInt8, b ≠ a → (a == b) = false := fun a h => beq_eq_false_iff_ne.mpr (Ne.symm h)
          simp only [hasA, hasV, take_has hget, n1 _ h75, n1 _ h70, n1 _ h84, n1 _ h83, n1 _ h67, n1 _ h68, n1 _ h71, Bool.or_false]
        rwa [← e]
      clear hget hne h75 h70 h84 h83 h67 h68 h71
      go_wp2
      exact ⟨⟨k + 1, by omega, by simp, hg, hb2, hn⟩, by simp [intOf]; omega⟩
    · rw [List.take_length] at hb3
      have q0 := hb3.cell 0
      have q1 := hb3.cell 1
      have q2 := hb3.cell 2
      have q3 := hb3.cell 3
      have q4 := hb3.cell 4
      have q5 := hb3.cell 5
      simp only [List.getElem?_toArray, List.getElem?_cons_succ, List.getElem?_cons_zero] at q0 q1 q2 q3 q4 q5
      go_wp2_with (refine atS 177 w.heap.size 0 rfl rfl ?_; go_must (refine storeT 177 6 size177 rfl _ _ rfl 177 w.heap.size 0 _ hb2 (by simp) rfl _ rfl rfl (by simp [Value.oneCell']) ?_); intro X6 b6 g6)
      rw [sets_177] at b6
      exact ⟨rfl, _, res122 b6 _ rfl, by simp, gb_mine hg g6 (by omega)⟩
end Go.Proofs.YtobegepebochkaaGreatDoor
namespace Go.Proofs.YtobegepebochkaaGreatDoor
open Go.RowKit Go.Maps
attribute [local go_sem] Oper.semAt_some
def Kf (w : World) (v : Value) (ks : List Bs) : Prop := (ks = [] ∧ ∃ a c, v = .slice a 0 c) ∨ ∃ g o c, v = .slice (some ⟨g, o, none⟩) ks.length c ∧ ∀ i x, ks[i]? = some x → w.cell? ⟨g, o + i, none⟩ = some (sv x)
theorem Kf.kept {w w' : World} {v : Value} {ks : List Bs} (h : Kf w v ks) (hf : w.grownBy w' none) : Kf w' v ks := by
  rcases h with h | ⟨g, o, c, e, h⟩
  · exact .inl h
  · exact .inr ⟨g, o, c, e, fun i x hx => gb_cellN hf (h i x hx)⟩
abbrev cmV (c : Cmd) (kv dv : Value) (lg : Bool) (mv : Value) : Array Value := #[.int .i64 c.verb, kv, .int .u64 c.flags, .int .i64 c.exp, .int .u64 c.tok, .int .u64 c.del, dv, .bool c.nr, .bool lg, mv, sv c.what]
theorem sv_cat (o x : Bs) : Value.string ((⟨o.toArray⟩ : ByteArray) ++ ⟨#[32]⟩ ++ ⟨x.toArray⟩) = sv (o ++ bls [x]) := by
  rw [show (⟨#[32]⟩ : ByteArray) = ⟨[(32 : UInt8)].toArray⟩ from rfl, ba_app, ba_app]
  simp [bls]
theorem sv_cat2 (o x : Bs) (l : List UInt8) : Value.string ((⟨o.toArray⟩ : ByteArray) ++ ⟨l.toArray⟩) = sv (o ++ l) := by
  rw [ba_app]
theorem bls_take {ws : List Bs} {j : Nat} {x : Bs} (h : ws[j]? = some x) : bls (ws.take (j + 1)) = bls (ws.take j) ++ bls [x] := by
  rw [List.take_add_one, h, Option.toList_some, bls_app]
theorem bls_le (a b : List Bs) : (bls a).length ≤ (bls (a ++ b)).length := by rw [bls_app, List.length_append]; omega
theorem bls_takeLe (ws : List Bs) (j : Nat) : (bls (ws.take j)).length ≤ (bls ws).length := by
  have := bls_le (ws.take j) (ws.drop j)
  rwa [List.take_append_drop] at this
def lnK (i : Nat) (c : Cmd) (n k : Nat) : Bs := spn i ++ bls (((dr i).shape.take k).flatMap (lw c n))
theorem lnK_0 (i : Nat) (c : Cmd) (n : Nat) : lnK i c n 0 = spn i := by simp [lnK, bls]
theorem lnK_1 {i : Nat} {c : Cmd} {n k : Nat} {a : UInt8} (h : (dr i).shape[k]? = some a) : lnK i c n (k + 1) = lnK i c n k ++ bls (lw c n a) := by
  unfold lnK
  rw [List.take_add_one, h, Option.toList_some, List.flatMap_append, bls_app, List.append_assoc]
  simp
theorem lnK_le (i : Nat) (c : Cmd) (n k : Nat) : (lnK i c n k).length ≤ (lnB i c n).length := by
  unfold lnK lnB lws
  rw [bls_app]
  have h1 : ((dr i).shape.take k ++ (dr i).shape.drop k).flatMap (lw c n) = ((dr i).shape.take k).flatMap (lw c n) ++ ((dr i).shape.drop k).flatMap (lw c n) := List.flatMap_append
  rw [List.take_append_drop] at h1
  rw [h1, bls_app]
  simp only [List.length_append]
  omega
theorem lnK_end (i : Nat) (c : Cmd) (n : Nat) : lnB i c n = lnK i c n (dr i).shape.length ++ bls (nrW c.nr) := by
  unfold lnK lnB lws
  rw [List.take_length, bls_app, List.append_assoc]
theorem shape_in : ∀ i, i < 24 → ∀ a ∈ (dr i).shape, a ∈ ([75, 70, 84, 78, 67, 68, 86, 87, 71, 83, 90] : Bs) := by decide
theorem shape_len : ∀ i, i < 24 → (dr i).shape.length ≤ 5 := by decide
theorem spn_len : ∀ i, i < 24 → (spn i).length ≤ 9 := by decide
end Go.Proofs.YtobegepebochkaaGreatDoor
