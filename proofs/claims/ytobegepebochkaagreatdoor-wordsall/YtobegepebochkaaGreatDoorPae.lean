import Derived.Shelf.Pu.ErrVarParseUint
import Derived.Shelf.Strconv.ErrVarParseInt
import Derived.Test.YtobegepebochkaaGreatDoorRows
import Derived.Lib.AtoiErrMem
import Derived.Test.YtobegepebochkaaGreatDoorPad
set_option linter.unusedVariables false
set_option linter.unusedSimpArgs false
namespace Go.Proofs.YtobegepebochkaaGreatDoor
open Go.RowKit Go.Shelf
set_option maxRecDepth 100000
def layPu_ren : Go.Shelf.Ren := ⟨fun | 14 => 156 | 16 => 170 | 17 => 169 | 19 => 185 | 20 => 186 | 21 => 181 | 22 => 182 | 23 => 183 | 24 => 184 | 25 => 197 | 27 => 150 | 26 => 198 | 28 => 164 | 29 => 178 | 30 => 174 | 31 => 175 | 32 => 176 | 33 => 177 | 35 => 193 | 34 => 192 | 36 => 194 | 37 => 195 | 38 => 196 | 39 => 201 | 40 => 202 | n => n, fun | 9 => 9 | 3 => 3 | 22 => 37 | 24 => 201 | 25 => 207 | 4 => 4 | 34 => 226 | 5 => 5 | 36 => 227 | 37 => 38 | 0 => 0 | 39 => 228 | 21 => 21 | 44 => 243 | 47 => 214 | 50 => 248 | 48 => 246 | 2 => 2 | 52 => 217 | 55 => 220 | 59 => 237 | 60 => 238 | 20 => 20 | 61 => 239 | 65 => 253 | 66 => 254 | 67 => 204 | n => n, fun | 0 => 2 | 1 => 3 | 2 => 1 | 3 => 6 | 4 => 7 | n => n⟩
theorem layPu : Go.Proofs.LaysPu.n14 Tryz.prog layPu_ren where
  mixed := by kernel_rfl
  f14 := Tryz.func156.trans (congrArg some (by kernel_rfl))
  f16 := Tryz.func170.trans (congrArg some (by kernel_rfl))
  f17 := Tryz.func169.trans (congrArg some (by kernel_rfl))
  f19 := Tryz.func185.trans (congrArg some (by kernel_rfl))
  f20 := Tryz.func186.trans (congrArg some (by kernel_rfl))
  f21 := Tryz.func181.trans (congrArg some (by kernel_rfl))
  f22 := Tryz.func182.trans (congrArg some (by kernel_rfl))
  f23 := Tryz.func183.trans (congrArg some (by kernel_rfl))
  f24 := Tryz.func184.trans (congrArg some (by kernel_rfl))
  f25 := Tryz.func197.trans (congrArg some (by kernel_rfl))
  f26 := Tryz.func198.trans (congrArg some (by kernel_rfl))
  f27 := Tryz.func150.trans (congrArg some (by kernel_rfl))
  f28 := Tryz.func164.trans (congrArg some (by kernel_rfl))
  f29 := Tryz.func178.trans (congrArg some (by kernel_rfl))
  f30 := Tryz.func174.trans (congrArg some (by kernel_rfl))
  f31 := Tryz.func175.trans (congrArg some (by kernel_rfl))
  f32 := Tryz.func176.trans (congrArg some (by kernel_rfl))
  f33 := Tryz.func177.trans (congrArg some (by kernel_rfl))
  f34 := Tryz.func192.trans (congrArg some (by kernel_rfl))
  f35 := Tryz.func193.trans (congrArg some (by kernel_rfl))
  f36 := Tryz.func194.trans (congrArg some (by kernel_rfl))
  f37 := Tryz.func195.trans (congrArg some (by kernel_rfl))
  f38 := Tryz.func196.trans (congrArg some (by kernel_rfl))
  f39 := Tryz.func201.trans (congrArg some (by kernel_rfl))
  f40 := Tryz.func202.trans (congrArg some (by kernel_rfl))
  t0 := Tryz.underlying0
  a0 := Tryz.isAgg0
  z0 := Tryz.sizeOf0
  v0 := Tryz.zeroValue0
  i0 := by kernel_rfl
  t2 := Tryz.underlying2
  a2 := Tryz.isAgg2
  z2 := Tryz.sizeOf2
  v2 := Tryz.zeroValue2
  i2 := by kernel_rfl
  t3 := Tryz.underlying3
  a3 := Tryz.isAgg3
  z3 := Tryz.sizeOf3
  v3 := Tryz.zeroValue3
  i3 := by kernel_rfl
  t4 := Tryz.underlying4
  a4 := Tryz.isAgg4
  z4 := Tryz.sizeOf4
  v4 := Tryz.zeroValue4
  i4 := by kernel_rfl
  t5 := Tryz.underlying5
  a5 := Tryz.isAgg5
  z5 := Tryz.sizeOf5
  v5 := Tryz.zeroValue5
  i5 := by kernel_rfl
  t9 := Tryz.underlying9
  a9 := Tryz.isAgg9
  z9 := Tryz.sizeOf9
  v9 := Tryz.zeroValue9
  i9 := by kernel_rfl
  t20 := Tryz.underlying20
  a20 := Tryz.isAgg20
  z20 := Tryz.sizeOf20
  v20 := Tryz.zeroValue20
  i20 := by kernel_rfl
  t21 := Tryz.underlying21
  a21 := Tryz.isAgg21
  z21 := Tryz.sizeOf21
  v21 := Tryz.zeroValue21
  i21 := by kernel_rfl
  t22 := Tryz.underlying37
  a22 := Tryz.isAgg37
  z22 := Tryz.sizeOf37
  v22 := Tryz.zeroValue37
  i22 := by kernel_rfl
  t24 := Tryz.underlying201
  a24 := Tryz.isAgg201
  z24 := Tryz.sizeOf201
  v24 := Tryz.zeroValue201
  i24 := by kernel_rfl
  t25 := Tryz.underlying207
  a25 := Tryz.isAgg207
  z25 := Tryz.sizeOf207
  v25 := Tryz.zeroValue207
  i25 := by kernel_rfl
  t34 := Tryz.underlying226
  a34 := Tryz.isAgg226
  z34 := Tryz.sizeOf226
  v34 := Tryz.zeroValue226
  i34 := by kernel_rfl
  c34 := by kernel_rfl
  t36 := Tryz.underlying227
  a36 := Tryz.isAgg227
  z36 := Tryz.sizeOf227
  v36 := Tryz.zeroValue227
  i36 := by kernel_rfl
  t37 := Tryz.underlying38
  a37 := Tryz.isAgg38
  z37 := Tryz.sizeOf38
  v37 := Tryz.zeroValue38
  i37 := by kernel_rfl
  t39 := Tryz.underlying228
  a39 := Tryz.isAgg228
  z39 := Tryz.sizeOf228
  v39 := Tryz.zeroValue228
  i39 := by kernel_rfl
  t44 := Tryz.underlying243
  a44 := Tryz.isAgg243
  z44 := Tryz.sizeOf243
  v44 := Tryz.zeroValue243
  i44 := by kernel_rfl
  t47 := Tryz.underlying214
  a47 := Tryz.isAgg214
  z47 := Tryz.sizeOf214
  v47 := Tryz.zeroValue214
  i47 := by kernel_rfl
  t48 := Tryz.underlying246
  a48 := Tryz.isAgg246
  z48 := Tryz.sizeOf246
  v48 := Tryz.zeroValue246
  i48 := by kernel_rfl
  t50 := Tryz.underlying248
  a50 := Tryz.isAgg248
  z50 := Tryz.sizeOf248
  v50 := Tryz.zeroValue248
  i50 := by kernel_rfl
  t52 := Tryz.underlying217
  a52 := Tryz.isAgg217
  z52 := Tryz.sizeOf217
  v52 := Tryz.zeroValue217
  i52 := by kernel_rfl
  t55 := Tryz.underlying220
  a55 := Tryz.isAgg220
  z55 := Tryz.sizeOf220
  v55 := Tryz.zeroValue220
  i55 := by kernel_rfl
  t59 := Tryz.underlying237
  a59 := Tryz.isAgg237
  z59 := Tryz.sizeOf237
  v59 := Tryz.zeroValue237
  i59 := by kernel_rfl
  t60 := Tryz.underlying238
  a60 := Tryz.isAgg238
  z60 := Tryz.sizeOf238
  v60 := Tryz.zeroValue238
  i60 := by kernel_rfl
  t61 := Tryz.underlying239
  a61 := Tryz.isAgg239
  z61 := Tryz.sizeOf239
  t65 := Tryz.underlying253
  a65 := Tryz.isAgg253
  z65 := Tryz.sizeOf253
  v65 := Tryz.zeroValue253
  i65 := by kernel_rfl
  t66 := Tryz.underlying254
  a66 := Tryz.isAgg254
  z66 := Tryz.sizeOf254
  v66 := Tryz.zeroValue254
  i66 := by kernel_rfl
  t67 := Tryz.underlying204
  a67 := Tryz.isAgg204
  z67 := Tryz.sizeOf204
  v67 := Tryz.zeroValue204
  i67 := by kernel_rfl
  g0 := by kernel_rfl
  m0 := by kernel_rfl
  g1 := by kernel_rfl
  m1 := by kernel_rfl
  g2 := by kernel_rfl
  m2 := by kernel_rfl
  g3 := by kernel_rfl
  m3 := by kernel_rfl
  g4 := by kernel_rfl
  m4 := by kernel_rfl
def layPi_ren : Go.Shelf.Ren := ⟨fun | 174 => 155 | 247 => 168 | 245 => 169 | 287 => 170 | 279 => 181 | 280 => 182 | 281 => 183 | 282 => 184 | 321 => 185 | 322 => 186 | 316 => 197 | 171 => 150 | 205 => 198 | 243 => 164 | 246 => 178 | 283 => 174 | 284 => 175 | 285 => 176 | 286 => 177 | 129 => 193 | 317 => 192 | 318 => 194 | 319 => 195 | 320 => 196 | 337 => 201 | 338 => 202 | n => n, fun | 9 => 9 | 3 => 3 | 2 => 2 | 75 => 201 | 85 => 205 | 4 => 4 | 167 => 226 | 5 => 5 | 53 => 37 | 175 => 207 | 46 => 227 | 168 => 228 | 37 => 38 | 0 => 0 | 210 => 243 | 21 => 21 | 127 => 214 | 145 => 248 | 143 => 246 | 171 => 217 | 173 => 220 | 212 => 237 | 51 => 238 | 20 => 20 | 213 => 239 | 232 => 253 | 233 => 254 | 80 => 204 | n => n, fun | 15 => 2 | 16 => 3 | 17 => 1 | 18 => 6 | 19 => 7 | n => n⟩
theorem layPi : Go.Proofs.LaysC.n174 Tryz.prog layPi_ren where
  mixed := by kernel_rfl
  f129 := Tryz.func193.trans (congrArg some (by kernel_rfl))
  f171 := Tryz.func150.trans (congrArg some (by kernel_rfl))
  f174 := Tryz.func155.trans (congrArg some (by kernel_rfl))
  f205 := Tryz.func198.trans (congrArg some (by kernel_rfl))
  f243 := Tryz.func164.trans (congrArg some (by kernel_rfl))
  f245 := Tryz.func169.trans (congrArg some (by kernel_rfl))
  f246 := Tryz.func178.trans (congrArg some (by kernel_rfl))
  f247 := Tryz.func168.trans (congrArg some (by kernel_rfl))
  f279 := Tryz.func181.trans (congrArg some (by kernel_rfl))
  f280 := Tryz.func182.trans (congrArg some (by kernel_rfl))
  f281 := Tryz.func183.trans (congrArg some (by kernel_rfl))
  f282 := Tryz.func184.trans (congrArg some (by kernel_rfl))
  f283 := Tryz.func174.trans (congrArg some (by kernel_rfl))
  f284 := Tryz.func175.trans (congrArg some (by kernel_rfl))
  f285 := Tryz.func176.trans (congrArg some (by kernel_rfl))
  f286 := Tryz.func177.trans (congrArg some (by kernel_rfl))
  f287 := Tryz.func170.trans (congrArg some (by kernel_rfl))
  f316 := Tryz.func197.trans (congrArg some (by kernel_rfl))
  f317 := Tryz.func192.trans (congrArg some (by kernel_rfl))
  f318 := Tryz.func194.trans (congrArg some (by kernel_rfl))
  f319 := Tryz.func195.trans (congrArg some (by kernel_rfl))
  f320 := Tryz.func196.trans (congrArg some (by kernel_rfl))
  f321 := Tryz.func185.trans (congrArg some (by kernel_rfl))
  f322 := Tryz.func186.trans (congrArg some (by kernel_rfl))
  f337 := Tryz.func201.trans (congrArg some (by kernel_rfl))
  f338 := Tryz.func202.trans (congrArg some (by kernel_rfl))
  t0 := Tryz.underlying0
  a0 := Tryz.isAgg0
  z0 := Tryz.sizeOf0
  v0 := Tryz.zeroValue0
  t2 := Tryz.underlying2
  a2 := Tryz.isAgg2
  z2 := Tryz.sizeOf2
  v2 := Tryz.zeroValue2
  t3 := Tryz.underlying3
  a3 := Tryz.isAgg3
  z3 := Tryz.sizeOf3
  v3 := Tryz.zeroValue3
  t4 := Tryz.underlying4
  a4 := Tryz.isAgg4
  z4 := Tryz.sizeOf4
  v4 := Tryz.zeroValue4
  t5 := Tryz.underlying5
  a5 := Tryz.isAgg5
  z5 := Tryz.sizeOf5
  v5 := Tryz.zeroValue5
  t9 := Tryz.underlying9
  a9 := Tryz.isAgg9
  z9 := Tryz.sizeOf9
  v9 := Tryz.zeroValue9
  t20 := Tryz.underlying20
  a20 := Tryz.isAgg20
  z20 := Tryz.sizeOf20
  v20 := Tryz.zeroValue20
  t21 := Tryz.underlying21
  a21 := Tryz.isAgg21
  z21 := Tryz.sizeOf21
  v21 := Tryz.zeroValue21
  t37 := Tryz.underlying38
  a37 := Tryz.isAgg38
  z37 := Tryz.sizeOf38
  v37 := Tryz.zeroValue38
  t46 := Tryz.underlying227
  a46 := Tryz.isAgg227
  z46 := Tryz.sizeOf227
  v46 := Tryz.zeroValue227
  t51 := Tryz.underlying238
  a51 := Tryz.isAgg238
  z51 := Tryz.sizeOf238
  v51 := Tryz.zeroValue238
  t53 := Tryz.underlying37
  a53 := Tryz.isAgg37
  z53 := Tryz.sizeOf37
  v53 := Tryz.zeroValue37
  t75 := Tryz.underlying201
  a75 := Tryz.isAgg201
  z75 := Tryz.sizeOf201
  v75 := Tryz.zeroValue201
  t85 := Tryz.underlying205
  a85 := Tryz.isAgg205
  z85 := Tryz.sizeOf205
  v85 := Tryz.zeroValue205
  t127 := Tryz.underlying214
  a127 := Tryz.isAgg214
  z127 := Tryz.sizeOf214
  v127 := Tryz.zeroValue214
  t143 := Tryz.underlying246
  a143 := Tryz.isAgg246
  z143 := Tryz.sizeOf246
  v143 := Tryz.zeroValue246
  t145 := Tryz.underlying248
  a145 := Tryz.isAgg248
  z145 := Tryz.sizeOf248
  v145 := Tryz.zeroValue248
  t167 := Tryz.underlying226
  a167 := Tryz.isAgg226
  z167 := Tryz.sizeOf226
  v167 := Tryz.zeroValue226
  t168 := Tryz.underlying228
  a168 := Tryz.isAgg228
  z168 := Tryz.sizeOf228
  v168 := Tryz.zeroValue228
  t171 := Tryz.underlying217
  a171 := Tryz.isAgg217
  z171 := Tryz.sizeOf217
  v171 := Tryz.zeroValue217
  t173 := Tryz.underlying220
  a173 := Tryz.isAgg220
  z173 := Tryz.sizeOf220
  v173 := Tryz.zeroValue220
  t175 := Tryz.underlying207
  a175 := Tryz.isAgg207
  z175 := Tryz.sizeOf207
  v175 := Tryz.zeroValue207
  t210 := Tryz.underlying243
  a210 := Tryz.isAgg243
  z210 := Tryz.sizeOf243
  v210 := Tryz.zeroValue243
  t212 := Tryz.underlying237
  a212 := Tryz.isAgg237
  z212 := Tryz.sizeOf237
  v212 := Tryz.zeroValue237
  t213 := Tryz.underlying239
  a213 := Tryz.isAgg239
  z213 := Tryz.sizeOf239
  t232 := Tryz.underlying253
  a232 := Tryz.isAgg253
  z232 := Tryz.sizeOf253
  v232 := Tryz.zeroValue253
  t233 := Tryz.underlying254
  a233 := Tryz.isAgg254
  z233 := Tryz.sizeOf254
  v233 := Tryz.zeroValue254
  g15 := by kernel_rfl
  g16 := by kernel_rfl
  g17 := by kernel_rfl
  g18 := by kernel_rfl
  g19 := by kernel_rfl
  t80 := Tryz.underlying204
  a80 := Tryz.isAgg204
  z80 := Tryz.sizeOf204
  v80 := Tryz.zeroValue204
  i0 := by kernel_rfl
  i2 := by kernel_rfl
  i3 := by kernel_rfl
  i4 := by kernel_rfl
  i5 := by kernel_rfl
  i9 := by kernel_rfl
  i20 := by kernel_rfl
  i21 := by kernel_rfl
  i37 := by kernel_rfl
  i46 := by kernel_rfl
  i51 := by kernel_rfl
  i53 := by kernel_rfl
  i75 := by kernel_rfl
  i80 := by kernel_rfl
  i85 := by kernel_rfl
  i127 := by kernel_rfl
  i143 := by kernel_rfl
  i145 := by kernel_rfl
  i167 := by kernel_rfl
  i168 := by kernel_rfl
  i171 := by kernel_rfl
  i173 := by kernel_rfl
  i175 := by kernel_rfl
  i210 := by kernel_rfl
  i212 := by kernel_rfl
  i232 := by kernel_rfl
  i233 := by kernel_rfl
  m15 := by kernel_rfl
  m16 := by kernel_rfl
  m17 := by kernel_rfl
  m18 := by kernel_rfl
  m19 := by kernel_rfl
  c0 := by kernel_rfl
  c2 := by kernel_rfl
  c3 := by kernel_rfl
  c4 := by kernel_rfl
  c5 := by kernel_rfl
  c9 := by kernel_rfl
  c20 := by kernel_rfl
  c21 := by kernel_rfl
  c37 := by kernel_rfl
  c46 := by kernel_rfl
  c51 := by kernel_rfl
  c53 := by kernel_rfl
  c75 := by kernel_rfl
  c80 := by kernel_rfl
  c85 := by kernel_rfl
  c127 := by kernel_rfl
  c143 := by kernel_rfl
  c145 := by kernel_rfl
  c167 := by kernel_rfl
  c168 := by kernel_rfl
  c171 := by kernel_rfl
  c173 := by kernel_rfl
  c175 := by kernel_rfl
  c210 := by kernel_rfl
  c212 := by kernel_rfl
  c213 := by kernel_rfl
  c232 := by kernel_rfl
  c233 := by kernel_rfl
end Go.Proofs.YtobegepebochkaaGreatDoor
namespace Go.Proofs.YtobegepebochkaaGreatDoor
open Go.RowKit Go.Shelf
def Er (w : World) : Prop := (∃ t p, w.cell? ⟨2, 0, none⟩ = some (.iface t p)) ∧ ∃ t p, w.cell? ⟨3, 0, none⟩ = some (.iface t p)
theorem Er.kept {w w' : World} (h : Er w) (hf : w.grownBy w' none) : Er w' := by
  obtain ⟨⟨a, b, h1⟩, c, d, h2⟩ := h
  exact ⟨⟨a, b, gb_cellN hf h1⟩, c, d, gb_cellN hf h2⟩
theorem gb_below {w w' : World} (h : Below w.heap.size w w') : w.grownBy w' none := ⟨h.os, h.tape, h.output, h.size, fun k hk _ => h.block k hk⟩
theorem puint_42 (l : Bs) (hl : l.length ≤ 1099511627776) (w : World) (h : Er w) :
    Calls Tryz.prog 156 #[sv l, .int .i64 10, .int .i64 64] w fun e w' => w.grownBy w' none ∧
      ((∃ u, Lib.parseUintB 64 l = .ok u ∧ e = .returned (.tuple #[.int .u64 u, .nilIface])) ∨
        ((∀ u, Lib.parseUintB 64 l ≠ .ok u) ∧ ∃ u t p, e = .returned (.tuple #[.int .u64 u, .iface t p]))) := by
  have hs : (ByteArray.mk l.toArray).size = l.length := ba_size l
  obtain ⟨⟨a, b, h1⟩, c, d, h2⟩ := h
  cases hp : Lib.parseUintB 64 l with
  | ok u =>
    refine (Any.strconv_ParseUint_10_at64_ok layPu ⟨l.toArray⟩ (by omega) u hp w).mono ?_
    rintro e w' ⟨rfl, hw⟩
    refine ⟨?_, .inl ⟨u, rfl, rfl⟩⟩
    rcases hw with rfl | rfl
    · exact gb_refl _ _
    · exact gb_below (Lib.bytesWorld_below _ _ _)
  | range =>
    refine (Any.strconv_ParseUint_10_at64_range layPu ⟨l.toArray⟩ (by omega) hp _ w h2 (.inr ⟨_, _, rfl⟩)).mono ?_
    rintro e w' ⟨n, rfl, _, _, hb⟩
    exact ⟨gb_below hb, .inr ⟨by simp, _, _, _, rfl⟩⟩
  | _ =>
    refine (Any.strconv_ParseUint_10_at64_syntax layPu ⟨l.toArray⟩ (by omega) hp _ w h1 (.inr ⟨_, _, rfl⟩)).mono ?_
    rintro e w' ⟨n, rfl, _, _, hb⟩
    exact ⟨gb_below hb, .inr ⟨by simp, _, _, _, rfl⟩⟩
theorem pint_58 (l : Bs) (hl : l.length ≤ 1099511627776) (w : World) (h : Er w) :
    Calls Tryz.prog 155 #[sv l, .int .i64 10, .int .i64 64] w fun e w' => w.grownBy w' none ∧
      ((∃ u, Lib.parseIntB 64 l = .ok u ∧ e = .returned (.tuple #[.int .i64 u, .nilIface])) ∨
        ((∀ u, Lib.parseIntB 64 l ≠ .ok u) ∧ ∃ u t p, e = .returned (.tuple #[.int .i64 u, .iface t p]))) := by
  have hs : (ByteArray.mk l.toArray).size = l.length := ba_size l
  obtain ⟨⟨a, b, h1⟩, c, d, h2⟩ := h
  cases hp : Lib.parseIntB 64 l with
  | ok u =>
    refine (Any.strconv_ParseInt_10_at64_ok layPi ⟨l.toArray⟩ (by omega) u hp w).mono ?_
    rintro e w' ⟨rfl, hw⟩
    refine ⟨?_, .inl ⟨u, rfl, rfl⟩⟩
    rcases hw with rfl | ⟨t, rfl⟩
    · exact gb_refl _ _
    · exact gb_below (Lib.bytesWorld_below _ _ _)
  | range =>
    refine (Any.strconv_ParseInt_10_at64_range layPi ⟨l.toArray⟩ (by omega) hp _ w h2 (.inr ⟨_, _, rfl⟩)).mono ?_
    rintro e w' ⟨n, rfl, _, _, hb⟩
    exact ⟨gb_below hb, .inr ⟨by simp, _, _, _, rfl⟩⟩
  | _ =>
    refine (Any.strconv_ParseInt_10_at64_syntax layPi ⟨l.toArray⟩ (by omega) hp _ w h1 (.inr ⟨_, _, rfl⟩)).mono ?_
    rintro e w' ⟨n, rfl, _, _, hb⟩
    exact ⟨gb_below hb, .inr ⟨by simp, _, _, _, rfl⟩⟩
set_option maxHeartbeats 1000000 in
theorem number_30 (l : Bs) (hl : l.length ≤ 1099511627776) (m : Int) (most : Nat) (hmm : m = (most : Int)) (hm : most ≤ 18446744073709551615) (w : World) (h : Er w) :
    Calls Tryz.prog 133 #[sv l, .int .u64 m] w fun e w' => e = .returned (.tuple #[.int .u64 ((nb most l).getD 0 : Nat), .bool (nb most l).isSome]) ∧ w.grownBy w' none := by
  have hc := puint_42 l hl w h
  have hm0 : 0 ≤ m ∧ m ≤ 18446744073709551615 := by omega
  go_enter Tryz.func133, Tryz.ntmps133
  have HM := Lib.hid hmm
  clear hmm hm
  go_wp2_with (go_at_call 156; refine hc.mono ?_; rintro e w' ⟨hg, (⟨u, hu, rfl⟩ | ⟨hu, u, t, p, rfl⟩)⟩)
  · rename_i h1
    have h2 := HM.out
    have e : nb most l = none := by unfold nb; rw [hu]; simp; omega
    rw [e]
    go_ret2
    exact ⟨rfl, hg⟩
  · rename_i h1
    have h2 := HM.out
    have e : nb most l = some u := by unfold nb; rw [hu]; simp; omega
    rw [e]
    go_ret2
    exact ⟨rfl, hg⟩
  · have e : nb most l = none := by
      unfold nb
      split
      · rename_i u hu'; exact absurd hu' (hu u)
      · rfl
    rw [e]
    go_ret2
    exact ⟨rfl, hg⟩
set_option maxHeartbeats 1000000 in
theorem time_46 (l : Bs) (hl : l.length ≤ 1099511627776) (w : World) (h : Er w) :
    Calls Tryz.prog 132 #[sv l] w fun e w' => e = .returned (.tuple #[.int .i64 ((tm l).getD 0), .bool (tm l).isSome]) ∧ w.grownBy w' none := by
  have hc := pint_58 l hl w h
  have hok : ∀ u, Lib.parseIntB 64 l = .ok u → 0 < l.length ∧ tm l = if l.getD 0 0 = 43 then none else some u := by
    intro u hu
    cases l with
    | nil => simp [Lib.parseIntB] at hu
    | cons b t => exact ⟨by simp, by simp [tm, hu]⟩
  have hno : (∀ u, Lib.parseIntB 64 l ≠ .ok u) → tm l = none := by
    intro hu
    unfold tm
    split
    · rename_i u hu'; exact absurd hu' (hu u)
    · rfl
  have hg0 : ∀ h : 0 < (ByteArray.mk l.toArray).size, (ByteArray.mk l.toArray)[0] = l.getD 0 0 := fun h => ba_get l 0 h
  obtain ⟨b, hb⟩ : ∃ b, l.getD 0 0 = b := ⟨_, rfl⟩
  rw [hb] at hok
  simp only [hb] at hg0
  clear hb
  go_enter Tryz.func132, Tryz.ntmps132
  go_wp2_with (go_at_call 155; refine hc.mono ?_; rintro e w' ⟨hg, (⟨u, hu, rfl⟩ | ⟨hu, u, t, p, rfl⟩)⟩; rotate_left)
  · rw [hno hu]
    go_ret2
    exact ⟨rfl, hg⟩
  · rename_i h1
    have h43 : b = 43 := by apply UInt8.toNat_inj.1; have := beq_iff_eq.1 h1; show b.toNat = 43; omega
    rw [(hok u hu).2, if_pos h43]
    go_ret2
    exact ⟨rfl, hg⟩
  · rename_i h1
    have h43 : b ≠ 43 := by rintro rfl; simp at h1
    rw [(hok u hu).2, if_neg h43]
    go_ret2
    exact ⟨rfl, hg⟩
theorem wanted_yes (l : Bs) (hl : l.length ≤ 1099511627776) (m : Int) (most : Nat) (hmm : m = (most : Int)) (hm : most ≤ 18446744073709551615) (s : ByteArray) (n : Nat) (hn : nb most l = some n) (w : World) (h : Er w) :
    Calls Tryz.prog 161 #[sv l, .int .u64 m, .string s] w fun e w' => e = .returned (.int .u64 n) ∧ w.grownBy w' none := by
  have hc := number_30 l hl m most hmm hm w h
  rw [hn] at hc
  clear hmm hn hm
  go_enter Tryz.func161, Tryz.ntmps161
  go_wp2_with (first | (go_at_call 133; refine hc.mono ?_; rintro e w' ⟨rfl, hg⟩) | (go_at_call 160; refine (ask_yes _ _).mono ?_; rintro e w2 ⟨rfl, rfl⟩))
  go_ret
  exact ⟨rfl, hg⟩
theorem wanted_no (l : Bs) (hl : l.length ≤ 1099511627776) (m : Int) (most : Nat) (hmm : m = (most : Int)) (hm : most ≤ 18446744073709551615) (s : ByteArray) (hn : nb most l = none) (w : World) (h : Er w) :
    Calls Tryz.prog 161 #[sv l, .int .u64 m, .string s] w fun e w' => e = up s ∧ w.grownBy w' none := by
  have hc := number_30 l hl m most hmm hm w h
  rw [hn] at hc
  clear hmm hn hm
  go_enter Tryz.func161, Tryz.ntmps161
  go_wp2_with (first | (go_at_call 133; refine hc.mono ?_; rintro e w' ⟨rfl, hg⟩) | (go_at_call 160; refine (ask_no _ _).mono ?_; rintro e w2 ⟨rfl, rfl⟩))
  exact ⟨rfl, rfl, hg⟩
abbrev fv (f : Fl) : Value := .agg #[.int .u8 f.letter.toNat, sv f.arg, .bool f.has]
theorem u8i {a : UInt8} (n : UInt8) : (a = n) = ((a.toNat : Int) = (n.toNat : Int)) := by
  apply propext
  constructor
  · rintro rfl; rfl
  · intro h; apply UInt8.toNat_inj.1; omega
set_option maxHeartbeats 2000000 in
theorem follows_49 (v : Int) (f : Fl) (hl : f.arg.length ≤ 1099511627776) (w : World) (h : Er w) :
    Calls Tryz.prog 85 #[.int .i64 v, fv f] w fun e w' => e = .returned (.bool (follows v f)) ∧ w.grownBy w' none := by
  obtain ⟨a, l, q⟩ := f
  have h1 := fun w' (hw : Er w') => time_46 l hl w' hw
  have h2 := fun w' (hw : Er w') => number_30 l hl 18446744073709551615 18446744073709551615 rfl (by omega) w' hw
  have h3 := fun w' (hw : Er w') => number_30 l hl 4294967295 4294967295 rfl (by omega) w' hw
  have h4 := fun w' => isPlain_44 l (by dsimp only at hl; omega) w'
  have h5 := fun w' => modes_59 v w'
  obtain ⟨x1, e1⟩ : ∃ x, (tm l).isSome = x := ⟨_, rfl⟩
  obtain ⟨x2, e2⟩ : ∃ x, (nb 18446744073709551615 l).isSome = x := ⟨_, rfl⟩
  obtain ⟨x3, e3⟩ : ∃ x, (nb 4294967295 l).isSome = x := ⟨_, rfl⟩
  obtain ⟨x4, e4⟩ : ∃ x, plain l = x := ⟨_, rfl⟩
  obtain ⟨y2, f2⟩ : ∃ x : Int, ((nb 18446744073709551615 l).getD 0 : Nat) = x := ⟨_, rfl⟩
  obtain ⟨y3, f3⟩ : ∃ x : Int, ((nb 4294967295 l).getD 0 : Nat) = x := ⟨_, rfl⟩
  simp only [e1, e2, e3, e4, f2, f3] at h1 h2 h3 h4
  have HF : Hid (follows v ⟨a, l, q⟩ = if (a.toNat : Int) = 79 then x4 else if (a.toNat : Int) = 84 ∨ (a.toNat : Int) = 78 then x1 else
      if (a.toNat : Int) = 82 ∨ (a.toNat : Int) = 67 ∨ (a.toNat : Int) = 68 ∨ (a.toNat : Int) = 74 then x2 else if (a.toNat : Int) = 70 then x3 else
      if (a.toNat : Int) = 77 then mode1 v l else false) := by
    show _ = _
    simp only [follows, u8i, UInt8.reduceToNat, e1, e2, e3, e4]
    rfl
  clear e1 e2 e3 e4 f2 f3
  have hE : ∀ o, Er (w.alloc o) := fun o => h.kept (gb_alloc (gb_refl _ _) _)
  have hG : ∀ o w', (w.alloc o).grownBy w' none → w.grownBy w' none := fun o w' h => gb_trans (gb_alloc (gb_refl _ _) _) h
  go_enter Tryz.func85, Tryz.ntmps85
  go_wp2_with (first | (go_at_call 131; with_reducible refine (h4 _).mono ?_; rintro e w' ⟨rfl, rfl⟩) | (go_at_call 132; with_reducible refine (h1 _ (hE _)).mono ?_; rintro e w' ⟨rfl, hg⟩) | (go_at_call 133; with_reducible refine (h2 _ (hE _)).mono ?_; rintro e w' ⟨rfl, hg⟩) | (go_at_call 133; with_reducible refine (h3 _ (hE _)).mono ?_; rintro e w' ⟨rfl, hg⟩) | (go_at_call 134; with_reducible refine (h5 _).mono ?_; rintro e w' ⟨rfl, rfl⟩))
  all_goals clear h1 h2 h3 h4 hE
  all_goals try (
    clear h5
    (try simp only [beq_iff_eq, beq_eq_false_iff_ne, ne_eq] at *)
    go_ret
    refine ⟨congrArg (fun b => Ending.returned (Value.bool b)) (Eq.trans ?_ HF.out.symm), by first | exact hG _ _ hg | exact gb_alloc (gb_refl _ _) _⟩
    simp [*]
    done)
  have hc : Hid (¬(a.toNat : Int) = 79 ∧ ¬(a.toNat : Int) = 84 ∧ ¬(a.toNat : Int) = 78 ∧ ¬(a.toNat : Int) = 82 ∧ ¬(a.toNat : Int) = 67 ∧ ¬(a.toNat : Int) = 68 ∧ ¬(a.toNat : Int) = 74 ∧ ¬(a.toNat : Int) = 70 ∧ (a.toNat : Int) = 77) := by
    show _ ∧ _
    simp only [beq_iff_eq, beq_eq_false_iff_ne, ne_eq] at *
    simp [*]
  have hM : Hid (follows v ⟨a, l, q⟩ = mode1 v l) := by
    show _ = _
    rw [HF.out]
    have := hc.out
    simp [this]
  have c1 : (w.alloc (Obj.cells #[Value.int .u8 a.toNat, sv l, Value.bool q] 43)).cell? ⟨w.heap.size, 1, none⟩ = some (sv l) := (Box.new w 43 _).cell 1
  clear HF hc
  by_cases h1 : l.length = 1
  · obtain ⟨b, rfl⟩ : ∃ b, l = [b] := List.length_eq_one_iff.1 h1
    have hg0 : ∀ h : 0 < (ByteArray.mk [b].toArray).size, (ByteArray.mk [b].toArray)[0] = b := fun _ => rfl
    have hhas := fun w' => has_48 (modes v) b w'
    go_quiet ((first | (go_at_call 134; with_reducible exact Calls.quiet_of_same (h5 _)) | (go_at_call 84; with_reducible exact Calls.quiet_of_same (hhas _))))
    go_wp2
    go_ret
    exact ⟨congrArg (fun b => Ending.returned (Value.bool b)) ((List.contains_eq_mem b (modes v)).symm.trans hM.out.symm), gb_drewN (gb_alloc (gb_refl _ _) _) _⟩
  · have d1 : ((l.length : Int) == 1) = false := by simp; omega
    go_quiet (fail)
    go_wp2
    go_ret
    refine ⟨congrArg (fun b => Ending.returned (Value.bool b)) (Eq.trans ?_ hM.out.symm), gb_drewN (gb_alloc (gb_refl _ _) _) _⟩
    match l, h1 with
    | [], _ => rfl
    | [x], h => exact absurd rfl h
    | x :: y :: t, _ => rfl
end Go.Proofs.YtobegepebochkaaGreatDoor
