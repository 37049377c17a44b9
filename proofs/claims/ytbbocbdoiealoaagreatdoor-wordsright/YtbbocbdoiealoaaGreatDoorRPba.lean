import Derived.Test.YtbbocbdoiealoaaGreatDoorRGe
import Derived.Test.YtbbocbdoiealoaaGreatDoorRPaz
import Derived.Shelf.LaysM
import Derived.Shelf.Strconv.Itoa3
import Derived.Lib.AppendIntMem
import Derived.Test.YtbbocbdoiealoaaGreatDoorRPaw
import Derived.Test.YtbbocbdoiealoaaGreatDoorRPas
import Derived.Test.YtbbocbdoiealoaaGreatDoorRPar
set_option linter.unusedVariables false
set_option linter.unusedSimpArgs false
namespace Go.Proofs.YtbbocbdoiealoaaGreatDoor
def mustW (c : Cmd) (n : Nat) (a : UInt8) : List Bs :=
  if a = 75 then c.keys else
  if a = 70 then [dg c.flags] else
  if a = 84 then [sg c.exp] else
  if a = 78 then [dg n] else
  if a = 67 then [dg c.tok] else
  if a = 68 then [dg c.del] else [[49]]
def mightW (c : Cmd) (a : UInt8) : List Bs :=
  if a = 76 then (if c.exp = 0 then [] else [sg c.exp]) else
  if a = 87 then (if c.what = [] then [] else [c.what]) else
  if a = 77 then c.mt.map fw else []
def spW (r : Rw) (c : Cmd) (n : Nat) : List Bs := r.wants.flatMap (mustW c n) ++ r.may.flatMap (mightW c) ++ nrW c.nr
theorem spW_eq (i : Nat) (hi : i < 24) (c : Cmd) (n : Nat) : spW (rwN i) c n = lws i c n := by
  unfold spW lws
  congr 1
  match i, hi with
  | 0, _ => simp [rwN, rowL, dr, drL, mustW, mightW, lw]
  | 1, _ => simp [rwN, rowL, dr, drL, mustW, mightW, lw]
  | 2, _ => simp [rwN, rowL, dr, drL, mustW, mightW, lw]
  | 3, _ => simp [rwN, rowL, dr, drL, mustW, mightW, lw]
  | 4, _ => simp [rwN, rowL, dr, drL, mustW, mightW, lw]
  | 5, _ => simp [rwN, rowL, dr, drL, mustW, mightW, lw]
  | 6, _ => simp [rwN, rowL, dr, drL, mustW, mightW, lw]
  | 7, _ => simp [rwN, rowL, dr, drL, mustW, mightW, lw]
  | 8, _ => simp [rwN, rowL, dr, drL, mustW, mightW, lw]
  | 9, _ => simp [rwN, rowL, dr, drL, mustW, mightW, lw]
  | 10, _ => simp [rwN, rowL, dr, drL, mustW, mightW, lw]
  | 11, _ => simp [rwN, rowL, dr, drL, mustW, mightW, lw]
  | 12, _ => simp [rwN, rowL, dr, drL, mustW, mightW, lw]
  | 13, _ => simp [rwN, rowL, dr, drL, mustW, mightW, lw]
  | 14, _ => simp [rwN, rowL, dr, drL, mustW, mightW, lw]
  | 15, _ => simp [rwN, rowL, dr, drL, mustW, mightW, lw]
  | 16, _ => simp [rwN, rowL, dr, drL, mustW, mightW, lw]
  | 17, _ => simp [rwN, rowL, dr, drL, mustW, mightW, lw]
  | 18, _ => simp [rwN, rowL, dr, drL, mustW, mightW, lw]
  | 19, _ => simp [rwN, rowL, dr, drL, mustW, mightW, lw]
  | 20, _ => simp [rwN, rowL, dr, drL, mustW, mightW, lw]
  | 21, _ => simp [rwN, rowL, dr, drL, mustW, mightW, lw]
  | 22, _ => simp [rwN, rowL, dr, drL, mustW, mightW, lw]
  | 23, _ => simp [rwN, rowL, dr, drL, mustW, mightW, lw]
  | k + 24, h => exact absurd h (by omega)
theorem join_bls : ∀ (ws : List Bs) (x : Bs), Lib.join (x :: ws) [32] = x ++ bls ws
  | [], x => by simp [Lib.join, bls]
  | y :: ws, x => by
    rw [bls_cons]
    have := join_bls ws y
    rw [← this]
    simp [Lib.join, List.intercalate]
theorem ofS_n (i : Nat) (hi : i < 24) : ofS ((i : Int) + 1) = some (spn i, rwN i) := by
  match i, hi with
  | 0, _ => rfl
  | 1, _ => rfl
  | 2, _ => rfl
  | 3, _ => rfl
  | 4, _ => rfl
  | 5, _ => rfl
  | 6, _ => rfl
  | 7, _ => rfl
  | 8, _ => rfl
  | 9, _ => rfl
  | 10, _ => rfl
  | 11, _ => rfl
  | 12, _ => rfl
  | 13, _ => rfl
  | 14, _ => rfl
  | 15, _ => rfl
  | 16, _ => rfl
  | 17, _ => rfl
  | 18, _ => rfl
  | 19, _ => rfl
  | 20, _ => rfl
  | 21, _ => rfl
  | 22, _ => rfl
  | 23, _ => rfl
  | k + 24, h => exact absurd h (by omega)
end Go.Proofs.YtbbocbdoiealoaaGreatDoor
namespace Go.Proofs.YtbbocbdoiealoaaGreatDoor
open Go.RowKit Go.Shelf Go.Sort
set_option maxRecDepth 100000
def layItoa_ren : Go.Shelf.Ren := ⟨fun | 171 => 155 | 243 => 169 | 246 => 183 | 283 => 179 | 284 => 180 | 285 => 181 | 286 => 182 | 129 => 198 | 317 => 197 | 318 => 199 | 319 => 200 | 320 => 201 | 337 => 206 | 338 => 207 | n => n, fun | 3 => 3 | 9 => 9 | 2 => 2 | 4 => 4 | 171 => 220 | 0 => 0 | 53 => 37 | 37 => 38 | 5 => 5 | 173 => 223 | 212 => 240 | 51 => 241 | 20 => 20 | 213 => 242 | 46 => 230 | 232 => 256 | 233 => 257 | n => n, fun | 17 => 1 | 18 => 6 | 19 => 7 | n => n⟩
theorem layItoa : Go.Proofs.LaysM.n171 Tryz.prog layItoa_ren where
  mixed := by kernel_rfl
  f129 := Tryz.func198.trans (congrArg some (by kernel_rfl))
  f171 := Tryz.func155.trans (congrArg some (by kernel_rfl))
  f243 := Tryz.func169.trans (congrArg some (by kernel_rfl))
  f246 := Tryz.func183.trans (congrArg some (by kernel_rfl))
  f283 := Tryz.func179.trans (congrArg some (by kernel_rfl))
  f284 := Tryz.func180.trans (congrArg some (by kernel_rfl))
  f285 := Tryz.func181.trans (congrArg some (by kernel_rfl))
  f286 := Tryz.func182.trans (congrArg some (by kernel_rfl))
  f317 := Tryz.func197.trans (congrArg some (by kernel_rfl))
  f318 := Tryz.func199.trans (congrArg some (by kernel_rfl))
  f319 := Tryz.func200.trans (congrArg some (by kernel_rfl))
  f320 := Tryz.func201.trans (congrArg some (by kernel_rfl))
  f337 := Tryz.func206.trans (congrArg some (by kernel_rfl))
  f338 := Tryz.func207.trans (congrArg some (by kernel_rfl))
  t0 := Tryz.underlying0
  a0 := Tryz.isAgg0
  z0 := Tryz.sizeOf0
  v0 := Tryz.zeroValue0
  t2 := Tryz.underlying2
  a2 := Tryz.isAgg2
  z2 := Tryz.sizeOf2
  v2 := Tryz.zeroValue2
  t3 := Tryz.underlying3
  a3 := Tryz.isAgg3
  z3 := Tryz.sizeOf3
  v3 := Tryz.zeroValue3
  t4 := Tryz.underlying4
  a4 := Tryz.isAgg4
  z4 := Tryz.sizeOf4
  v4 := Tryz.zeroValue4
  t5 := Tryz.underlying5
  a5 := Tryz.isAgg5
  z5 := Tryz.sizeOf5
  v5 := Tryz.zeroValue5
  t9 := Tryz.underlying9
  a9 := Tryz.isAgg9
  z9 := Tryz.sizeOf9
  v9 := Tryz.zeroValue9
  t20 := Tryz.underlying20
  a20 := Tryz.isAgg20
  z20 := Tryz.sizeOf20
  v20 := Tryz.zeroValue20
  t37 := Tryz.underlying38
  a37 := Tryz.isAgg38
  z37 := Tryz.sizeOf38
  v37 := Tryz.zeroValue38
  t46 := Tryz.underlying230
  a46 := Tryz.isAgg230
  z46 := Tryz.sizeOf230
  v46 := Tryz.zeroValue230
  t51 := Tryz.underlying241
  a51 := Tryz.isAgg241
  z51 := Tryz.sizeOf241
  v51 := Tryz.zeroValue241
  t53 := Tryz.underlying37
  a53 := Tryz.isAgg37
  z53 := Tryz.sizeOf37
  v53 := Tryz.zeroValue37
  t171 := Tryz.underlying220
  a171 := Tryz.isAgg220
  z171 := Tryz.sizeOf220
  v171 := Tryz.zeroValue220
  t173 := Tryz.underlying223
  a173 := Tryz.isAgg223
  z173 := Tryz.sizeOf223
  v173 := Tryz.zeroValue223
  t212 := Tryz.underlying240
  a212 := Tryz.isAgg240
  z212 := Tryz.sizeOf240
  v212 := Tryz.zeroValue240
  t213 := Tryz.underlying242
  a213 := Tryz.isAgg242
  z213 := Tryz.sizeOf242
  t232 := Tryz.underlying256
  a232 := Tryz.isAgg256
  z232 := Tryz.sizeOf256
  v232 := Tryz.zeroValue256
  t233 := Tryz.underlying257
  a233 := Tryz.isAgg257
  z233 := Tryz.sizeOf257
  v233 := Tryz.zeroValue257
  g17 := by kernel_rfl
  g18 := by kernel_rfl
  g19 := by kernel_rfl
  i0 := by kernel_rfl
  i2 := by kernel_rfl
  i3 := by kernel_rfl
  i4 := by kernel_rfl
  i5 := by kernel_rfl
  i9 := by kernel_rfl
  i20 := by kernel_rfl
  i37 := by kernel_rfl
  i46 := by kernel_rfl
  i51 := by kernel_rfl
  i53 := by kernel_rfl
  i171 := by kernel_rfl
  i173 := by kernel_rfl
  i212 := by kernel_rfl
  i232 := by kernel_rfl
  i233 := by kernel_rfl
  m17 := by kernel_rfl
  m18 := by kernel_rfl
  m19 := by kernel_rfl
def Pw (w : World) : Prop := ∀ s, (Tryz.prog.globals[1]?).map (fun g => g.name) = some s → Lib.TabIs Tryz.prog w s .u64 Lib.pow10Tab
theorem gb_grow (w : World) (k : Nat) (os : Array Obj) : w.grownBy (grow (w.drewN k) os) none :=
  ⟨rfl, rfl, rfl, by simp [grow], fun i hi _ => by simp [grow, Array.getElem?_append, hi]⟩
theorem dec_dg : ∀ n, Lib.decDigits n = dg n := by
  intro n
  induction n using Nat.strongRecOn with
  | _ n ih =>
    by_cases h : n < 10
    · rw [Lib.decDigits, dif_pos h, dg_lo n h]
      rfl
    · rw [Lib.decDigits, dif_neg h, dg_hi n h, ih (n / 10) (by omega), dg_lo (n % 10) (by omega)]
      rfl
theorem itoa_sg (t : Int) : Lib.itoa t = sg t := by
  unfold Lib.itoa sg
  split
  · rw [dec_dg]
  · rw [dec_dg, show t.toNat = t.natAbs by omega]
theorem itoa_150 (n : Int) (h0 : -9223372036854775808 ≤ n) (h1 : n ≤ 9223372036854775807) (w : World) (hp : Pw w) :
    Calls Tryz.prog 155 #[.int .i64 n] w fun e w' => e = .returned (sv (sg n)) ∧ w.grownBy w' none := by
  refine (Any.strconv_Itoa layItoa n h0 h1 w (hp _ (by kernel_rfl))).mono ?_
  rintro e w' ⟨rfl, k, os, rfl⟩
  exact ⟨by rw [itoa_sg], gb_grow _ _ _⟩
theorem cv_fmt {w : World} {u k v' : Nat} {dk : Array UInt8} (hF : Lib.FmtInv (Lib.nDigits u) u 0 v' dk) (hH0 : Holds (fun (b : UInt8) => Value.int .u8 (b.toNat : Int)) (w.alloc (.cells Lib.zeros24 220)) w.heap.size 0 (Array.replicate (Lib.nDigits u) 0)) :
    (convert 38 9 (.slice (some ⟨w.heap.size, 0, none⟩) (Lib.nDigits u) 24)).run Tryz.prog ((putRow (fun (b : UInt8) => Value.int .u8 (b.toNat : Int)) (w.alloc (.cells Lib.zeros24 220)) w.heap.size 0 dk).drewN k) = .ok (.string ⟨(Lib.decDigits u).toArray⟩) ((putRow (fun (b : UInt8) => Value.int .u8 (b.toNat : Int)) (w.alloc (.cells Lib.zeros24 220)) w.heap.size 0 dk).drewN k) := by
  have h := run_convert_bytes_back (P := Tryz.prog) ((putRow (fun (b : UInt8) => Value.int .u8 (b.toNat : Int)) (w.alloc (.cells Lib.zeros24 220)) w.heap.size 0 dk).drewN k) 38 9 5 ⟨w.heap.size, 0, none⟩ 24 (Lib.decDigits u) Tryz.underlying38 Tryz.underlying5 Tryz.underlying9 (fun j hj => by
    rw [Lib.row_is_numeral hF j hj, Lib.add_plain, World.cell?_drewN]
    exact cell?_putRow (fun (b : UInt8) => Value.int .u8 (b.toNat : Int)) _ w.heap.size 0 _ dk hH0 (by rw [hF.size, Array.size_replicate]) j (by rw [hF.size]; rw [Lib.decDigits_length] at hj; exact hj))
  rw [Lib.decDigits_length] at h
  exact h
set_option maxHeartbeats 4000000 in
theorem fmtu_163 (u : Nat) (hu : u ≤ 18446744073709551615) (w : World) (hp : Pw w) :
    Calls Tryz.prog 168 #[.int .u64 u, .int .i64 10] w fun e w' => e = .returned (sv (dg u)) ∧ w.grownBy w' none := by
  have L := layItoa
  by_cases hs : u < 100
  · have h283 := fun W => Any.internal_strconv_small { L with } u hs W
    have d1 : decide ((u : Int) < 100) = true := decide_eq_true (by omega)
    have hw : IntKind.i64.wrap (u : Int) = (u : Int) := by rw [IntKind.wrap_i64]; omega
    go_enter Tryz.func168, Tryz.ntmps168
    go_wp2_with (go_at_call 179; go_must (refine (h283 _).mono ?_); rintro e w' ⟨rfl, rfl⟩)
    go_ret
    exact ⟨by rw [dec_dg]; rfl, gb_refl _ _⟩
  · have hu1 : 1 ≤ u := by omega
    have hu64 : u < 18446744073709551616 := by omega
    have hnd20 : Lib.nDigits u ≤ 20 := by have := Lib.numDigits_eq u hu1 hu64; split at this <;> omega
    have d1 : decide ((u : Int) < 100) = false := decide_eq_false (by omega)
    have hal : Tryz.prog.arrayLen 220 = 24 := by kernel_rfl
    have hsl : ∀ W, (Instr.sliceAt 220 (.pointer (some ⟨w.heap.size, 0, none⟩)) none (some (.int .i64 (Lib.nDigits u : Int))) none).run Tryz.prog W = .ok (.slice (some ⟨w.heap.size, 0, none⟩) (Lib.nDigits u) 24) W := fun W => by
      rw [run_sliceAt_array_h W 220 ⟨w.heap.size, 0, none⟩ (by simp [Program.arrayLen, Program.elem, Tryz.underlying220]) .i64 (Lib.nDigits u : Int) (by omega) (by rw [hal]; omega)]
      go_simp
    have hH0 := Lib.holds_zero0 w 220 (Lib.nDigits u) (by omega)
    have hfmt := Any.internal_strconv_formatBase10 { L with } w.heap.size 0 24 u (Array.replicate (Lib.nDigits u) 0) (w.alloc (.cells Lib.zeros24 220)) hH0 (by rw [Array.size_replicate]; exact Lib.lt_pow_nDigits u) hu64 (by rw [Array.size_replicate]; omega)
    rw [Array.size_replicate] at hfmt
    have hnd := Any.internal_strconv_numDigits { L with } u hu1 hu64 (w.alloc (.cells Lib.zeros24 220)) (Lib.tabIs_alloc (hp _ (by kernel_rfl)) _)
    have HH0 := Lib.hid hH0
    clear hH0 hal
    go_enter Tryz.func168, Tryz.ntmps168
    go_wp2_with (first
      | (go_at_call 180; go_must (refine hnd.mono ?_); rintro e w' ⟨rfl, rfl⟩)
      | (go_at_call 181; go_must (refine hfmt.mono ?_); rintro e w' ⟨rfl, k, v', dk, rfl, hF⟩; have hcv := cv_fmt (k := k) hF HH0.out; clear hF))
    go_ret
    obtain ⟨os, eo⟩ := Lib.fin_at w (.cells Lib.zeros24 220) dk k 0
    refine ⟨by rw [dec_dg]; rfl, ?_⟩
    rw [eo]
    exact gb_grow _ _ _
theorem fmtu_149 (u : Nat) (hu : u ≤ 18446744073709551615) (w : World) (hp : Pw w) :
    Calls Tryz.prog 154 #[.int .u64 u, .int .i64 10] w fun e w' => e = .returned (sv (dg u)) ∧ w.grownBy w' none := by
  have h163 := fmtu_163 u hu w hp
  go_enter Tryz.func154, Tryz.ntmps154
  go_wp2_with (go_at_call 168; go_must (refine h163.mono ?_); rintro e w' ⟨rfl, g⟩)
  go_ret
  exact ⟨rfl, g⟩
theorem Pw.kept {w w' : World} (h : Pw w) (hf : w.grownBy w' none) : Pw w' := by
  intro s hs
  have h := h s hs
  unfold Lib.TabIs World.var? at *
  cases hg : Tryz.prog.globalNamed s with
  | none => simp [hg] at h
  | some g =>
    simp only [hg, Option.bind_some] at h ⊢
    cases hb : w.heap[g]? with
    | none => simp [hb] at h
    | some o =>
      have e := hf.block g (Array.getElem?_eq_some_iff.1 hb).1 (by simp)
      rw [e]
      exact h
end Go.Proofs.YtbbocbdoiealoaaGreatDoor
namespace Go.Proofs.YtbbocbdoiealoaaGreatDoor
open Go.RowKit Go.Maps
theorem dg_le : ∀ k n, n < 10 ^ (k + 1) → (dg n).length ≤ k + 1 := by
  intro k
  induction k with
  | zero => intro n h; rw [dg_lo n (by simpa using h)]; simp
  | succ k ih =>
    intro n h
    by_cases h1 : n < 10
    · rw [dg_lo n h1]; simp
    · rw [dg_hi n h1, List.length_append, dg_lo (n % 10) (by omega)]
      have := ih (n / 10) (by rw [Nat.pow_succ] at h; omega)
      simp; omega
theorem dg_20 (n : Nat) (h : n ≤ 18446744073709551615) : (dg n).length ≤ 20 := dg_le 19 n (by omega)
theorem sg_21 (t : Int) (h1 : -9223372036854775808 ≤ t) (h2 : t ≤ 9223372036854775807) : (sg t).length ≤ 21 := by
  have := dg_20 t.natAbs (by omega)
  unfold sg
  split
  · simp; omega
  · omega
end Go.Proofs.YtbbocbdoiealoaaGreatDoor
namespace Go.Proofs.YtbbocbdoiealoaaGreatDoor
open Go.RowKit Go.Maps
attribute [local go_sem] Oper.semAt_some
theorem shape_in : ∀ i, i < 24 → ∀ a ∈ (dr i).shape, a ∈ ([75, 70, 84, 78, 67, 68, 86, 87, 71, 83, 90] : Bs) := by decide
theorem shape_len : ∀ i, i < 24 → (dr i).shape.length ≤ 5 := by decide
theorem spn_len : ∀ i, i < 24 → (spn i).length ≤ 9 := by decide
end Go.Proofs.YtbbocbdoiealoaaGreatDoor
