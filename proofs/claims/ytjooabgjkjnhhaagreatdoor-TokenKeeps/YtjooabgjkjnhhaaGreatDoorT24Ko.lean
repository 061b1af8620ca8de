
import Derived.Test.YtjooabgjkjnhhaaGreatDoorT24Kn
/-! TokenKeeps: from the first 'if e != f || ..' on. (Printed by tools/gent24c.py.) -/
namespace Go.Proofs.YtjooabgjkjnhhaaGreatDoor
open Go.RowKit
set_option linter.unusedVariables false
set_option linter.unusedSimpArgs false
set_option maxRecDepth 100000

/-- Three pairs of back and Same. -/
structure BS3 (W1 : World) (x : Tk) (io : Option Addr) (ic : Nat) (y : Tk) (jo : Option Addr) (jc : Nat) (z : Tk) (ko : Option Addr) (kc : Nat) (q p s : Bool) (u v t : Value) (W : World) : Prop where
  a : BS W1 x io ic q u W
  b : BS W1 y jo jc p v W
  c : BS W1 z ko kc s t W
theorem isb_suf {w : World} {g : Nat} {a b : List By} (h : IsB w (some ⟨g, 0, none⟩) (a ++ b)) : IsB w (some ⟨g, a.length, none⟩) b := by
  rcases h with h | ⟨B, off, e, hc⟩
  · exact .inl (List.append_eq_nil_iff.1 h).2
  · injection e with e; injection e with e1 e2 _
    subst e1; subst e2
    refine .inr ⟨g, a.length, rfl, fun j v hj => ?_⟩
    have := hc (a.length + j) v (by rw [List.getElem?_append_right (by omega), Nat.add_sub_cancel_left]; exact hj)
    rw [Nat.zero_add] at this
    exact this
theorem strOf_mk3 : ((strOf mk3).toList == [161, 162, 163]) = true := by decide +kernel
structure KP11 (W1 : World) (y : Tk) (ix : Option Addr) (icx : Nat) (iy : Option Addr) (icy : Nat) (T : Tk) (G cq n g3 g7 ict : Nat) (it : Option Addr) (Ev : Int) (CX CY CZ CM CT : List Value) (L : Nat → Bool) (x64 x65 x66 x67 x68 x69 x70 x71 x72 x73 x74 x75 x76 x77 x78 x79 x80 x81 x82 x83 x84 x85 x86 x87 x88 x89 x90 x91 x92 x93 x94 x95 x96 x97 x98 x99 x100 x101 x102 : Value) (W : World) : Prop where
  x : BS3 W1 y ix icx y iy icy T (some ⟨G, 0, none⟩) cq (L 5) (L 12) (L 19) x69 x76 x83 W
  p0 : L 0 = true → x64 = .int .i64 Ev
  p1 : L 1 = true → x65 = .int .i64 Ev
  p2 : L 2 = true → x66 = .bool false
  p3 : L 3 = true → x67 = .bool false
  p4 : L 4 = true → x68 = .agg CX.toArray
  p6 : L 6 = true → x70 = .agg CZ.toArray
  p7 : L 7 = true → x71 = .bool true
  p8 : L 8 = true → x72 = .bool false
  p9 : L 9 = true → x73 = .bool false
  p10 : L 10 = true → x74 = .bool false
  p11 : L 11 = true → x75 = .agg CY.toArray
  p13 : L 13 = true → x77 = .agg CZ.toArray
  p14 : L 14 = true → x78 = .bool true
  p15 : L 15 = true → x79 = .bool false
  p16 : L 16 = true → x80 = .bool false
  p17 : L 17 = true → x81 = .bool false
  p18 : L 18 = true → x82 = .agg CM.toArray
  p20 : L 20 = true → x84 = .agg CT.toArray
  p21 : L 21 = true → x85 = .bool true
  p22 : L 22 = true → x86 = .bool false
  p23 : L 23 = true → x87 = .bool false
  p24 : L 24 = true → x88 = .bool false
  p25 : L 25 = true → x89 = .pointer (some ⟨g7, 1, none⟩)
  p26 : L 26 = true → x90 = .slice (some ⟨G, 0, none⟩) n cq
  p27 : L 27 = true → x91 = .pointer (some ⟨g3, 1, none⟩)
  p28 : L 28 = true → x92 = .slice it n ict
  p29 : L 29 = true → x93 = .int .i64 (n : Int)
  p30 : L 30 = true → x94 = .int .i64 ((n : Int) + 3)
  p31 : L 31 = true → x95 = .slice (some ⟨G, 0, none⟩) (n + 3) cq
  p32 : L 32 = true → x96 = .pointer (some ⟨g3, 1, none⟩)
  p33 : L 33 = true → x97 = .slice it n ict
  p34 : L 34 = true → x98 = .int .i64 (n : Int)
  p35 : L 35 = true → x99 = .slice (some ⟨G, n, none⟩) 3 (cq - n)
  p36 : L 36 = true → x100 = .string (strOf mk3)
  p37 : L 37 = true → x101 = .bool false
  p38 : L 38 = true → x102 = .bool false
section
variable {W1 : World} {y : Tk} {ix : Option Addr} {icx : Nat} {iy : Option Addr} {icy : Nat} {T : Tk} {G cq n g3 g7 ict : Nat} {it : Option Addr} {Ev : Int} {CX CY CZ CM CT : List Value} {L : Nat → Bool} {x64 x65 x66 x67 x68 x69 x70 x71 x72 x73 x74 x75 x76 x77 x78 x79 x80 x81 x82 x83 x84 x85 x86 x87 x88 x89 x90 x91 x92 x93 x94 x95 x96 x97 x98 x99 x100 x101 x102 : Value} {W W2 : World}
theorem KP11.s0 (h : KP11 W1 y ix icx iy icy T G cq n g3 g7 ict it Ev CX CY CZ CM CT L x64 x65 x66 x67 x68 x69 x70 x71 x72 x73 x74 x75 x76 x77 x78 x79 x80 x81 x82 x83 x84 x85 x86 x87 x88 x89 x90 x91 x92 x93 x94 x95 x96 x97 x98 x99 x100 x101 x102 W) : KP11 W1 y ix icx iy icy T G cq n g3 g7 ict it Ev CX CY CZ CM CT (upd L 0) (.int .i64 Ev) x65 x66 x67 x68 x69 x70 x71 x72 x73 x74 x75 x76 x77 x78 x79 x80 x81 x82 x83 x84 x85 x86 x87 x88 x89 x90 x91 x92 x93 x94 x95 x96 x97 x98 x99 x100 x101 x102 W :=
  ⟨h.x, fun _ => rfl, h.p1, h.p2, h.p3, h.p4, h.p6, h.p7, h.p8, h.p9, h.p10, h.p11, h.p13, h.p14, h.p15, h.p16, h.p17, h.p18, h.p20, h.p21, h.p22, h.p23, h.p24, h.p25, h.p26, h.p27, h.p28, h.p29, h.p30, h.p31, h.p32, h.p33, h.p34, h.p35, h.p36, h.p37, h.p38⟩
theorem KP11.s1 (h : KP11 W1 y ix icx iy icy T G cq n g3 g7 ict it Ev CX CY CZ CM CT L x64 x65 x66 x67 x68 x69 x70 x71 x72 x73 x74 x75 x76 x77 x78 x79 x80 x81 x82 x83 x84 x85 x86 x87 x88 x89 x90 x91 x92 x93 x94 x95 x96 x97 x98 x99 x100 x101 x102 W) : KP11 W1 y ix icx iy icy T G cq n g3 g7 ict it Ev CX CY CZ CM CT (upd L 1) x64 (.int .i64 Ev) x66 x67 x68 x69 x70 x71 x72 x73 x74 x75 x76 x77 x78 x79 x80 x81 x82 x83 x84 x85 x86 x87 x88 x89 x90 x91 x92 x93 x94 x95 x96 x97 x98 x99 x100 x101 x102 W :=
  ⟨h.x, h.p0, fun _ => rfl, h.p2, h.p3, h.p4, h.p6, h.p7, h.p8, h.p9, h.p10, h.p11, h.p13, h.p14, h.p15, h.p16, h.p17, h.p18, h.p20, h.p21, h.p22, h.p23, h.p24, h.p25, h.p26, h.p27, h.p28, h.p29, h.p30, h.p31, h.p32, h.p33, h.p34, h.p35, h.p36, h.p37, h.p38⟩
end
@[reducible] def IKP11 (W1 : World) (y : Tk) (ix : Option Addr) (icx : Nat) (iy : Option Addr) (icy : Nat) (T : Tk) (G cq n g3 g7 ict : Nat) (it : Option Addr) (Ev : Int) (CX CY CZ CM CT : List Value) (y0 y1 y2 y3 y4 y5 y6 y7 y8 y9 y10 y11 y12 y13 y14 y15 y16 y17 y18 y19 y20 y21 y22 y23 y24 y25 y26 y27 y28 y29 y30 y31 y32 y33 y34 y35 y36 y37 y38 y39 y40 y41 y42 y43 y44 y45 y46 y47 y48 y49 y50 y51 y52 y53 y54 y55 y56 y57 y58 y59 y60 y61 y62 y63 y103 y104 y105 y106 y107 y108 y109 y110 y111 y112 y113 y114 y115 y116 y117 y118 y119 y120 y121 y122 y123 y124 y125 y126 y127 y128 y129 y130 y131 y132 y133 y134 y135 y136 y137 y138 y139 y140 y141 y142 y143 y144 y145 y146 y147 y148 y149 y150 y151 y152 y153 y154 y155 y156 y157 y158 y159 y160 y161 y162 y163 y164 y165 y166 y167 y168 y169 y170 y171 y172 y173 y174 y175 y176 y177 y178 y179 y180 y181 y182 y183 y184 y185 y186 y187 y188 y189 y190 y191 y192 y193 y194 y195 y196 y197 y198 y199 y200 y201 y202 y203 y204 y205 y206 y207 y208 y209 y210 y211 y212 y213 y214 y215 y216 y217 y218 y219 y220 y221 y222 y223 y224 y225 y226 y227 y228 y229 y230 y231 y232 y233 y234 y235 y236 y237 y238 y239 y240 y241 y242 y243 y244 y245 y246 y247 y248 y249 y250 y251 y252 y253 y254 y255 y256 y257 y258 y259 y260 y261 y262 y263 y264 y265 y266 y267 y268 y269 y270 y271 y272 y273 y274 y275 y276 y277 y278 y279 y280 y281 y282 y283 y284 y285 y286 y287 y288 y289 y290 y291 y292 y293 y294 y295 y296 y297 y298 y299 y300 y301 y302 y303 y304 y305 y306 y307 y308 y309 y310 y311 y312 y313 y314 y315 y316 y317 y318 y319 y320 y321 y322 y323 y324 y325 y326 y327 y328 y329 y330 y331 y332 y333 y334 y335 y336 y337 y338 y339 y340 y341 y342 y343 : Value) : (Nat → Bool) → Act → World → Prop := fun L a W => ∃ x64 x65 x66 x67 x68 x69 x70 x71 x72 x73 x74 x75 x76 x77 x78 x79 x80 x81 x82 x83 x84 x85 x86 x87 x88 x89 x90 x91 x92 x93 x94 x95 x96 x97 x98 x99 x100 x101 x102, a = ⟨#[y0, y1, y2, y3, y4, y5, y6, y7, y8, y9, y10, y11, y12, y13, y14, y15, y16, y17, y18, y19, y20, y21, y22, y23, y24, y25, y26, y27, y28, y29, y30, y31, y32, y33, y34, y35, y36, y37, y38, y39, y40, y41, y42, y43, y44, y45, y46, y47, y48, y49, y50, y51, y52, y53, y54, y55, y56, y57, y58, y59, y60, y61, y62, y63, x64, x65, x66, x67, x68, x69, x70, x71, x72, x73, x74, x75, x76, x77, x78, x79, x80, x81, x82, x83, x84, x85, x86, x87, x88, x89, x90, x91, x92, x93, x94, x95, x96, x97, x98, x99, x100, x101, x102, y103, y104, y105, y106, y107, y108, y109, y110, y111, y112, y113, y114, y115, y116, y117, y118, y119, y120, y121, y122, y123, y124, y125, y126, y127, y128, y129, y130, y131, y132, y133, y134, y135, y136, y137, y138, y139, y140, y141, y142, y143, y144, y145, y146, y147, y148, y149, y150, y151, y152, y153, y154, y155, y156, y157, y158, y159, y160, y161, y162, y163, y164, y165, y166, y167, y168, y169, y170, y171, y172, y173, y174, y175, y176, y177, y178, y179, y180, y181, y182, y183, y184, y185, y186, y187, y188, y189, y190, y191, y192, y193, y194, y195, y196, y197, y198, y199, y200, y201, y202, y203, y204, y205, y206, y207, y208, y209, y210, y211, y212, y213, y214, y215, y216, y217, y218, y219, y220, y221, y222, y223, y224, y225, y226, y227, y228, y229, y230, y231, y232, y233, y234, y235, y236, y237, y238, y239, y240, y241, y242, y243, y244, y245, y246, y247, y248, y249, y250, y251, y252, y253, y254, y255, y256, y257, y258, y259, y260, y261, y262, y263, y264, y265, y266, y267, y268, y269, y270, y271, y272, y273, y274, y275, y276, y277, y278, y279, y280, y281, y282, y283, y284, y285, y286, y287, y288, y289, y290, y291, y292, y293, y294, y295, y296, y297, y298, y299, y300, y301, y302, y303, y304, y305, y306, y307, y308, y309, y310, y311, y312, y313, y314, y315, y316, y317, y318, y319, y320, y321, y322, y323, y324, y325, y326, y327, y328, y329, y330, y331, y332, y333, y334, y335, y336, y337, y338, y339, y340, y341, y342, y343], []⟩ ∧ KP11 W1 y ix icx iy icy T G cq n g3 g7 ict it Ev CX CY CZ CM CT L x64 x65 x66 x67 x68 x69 x70 x71 x72 x73 x74 x75 x76 x77 x78 x79 x80 x81 x82 x83 x84 x85 x86 x87 x88 x89 x90 x91 x92 x93 x94 x95 x96 x97 x98 x99 x100 x101 x102 W
theorem KP11.step {W1 : World} {y : Tk} {ix : Option Addr} {icx : Nat} {iy : Option Addr} {icy : Nat} {T : Tk} {G cq n g3 g7 ict : Nat} {it : Option Addr} {Ev : Int} {CX CY CZ CM CT : List Value} {y0 y1 y2 y3 y4 y5 y6 y7 y8 y9 y10 y11 y12 y13 y14 y15 y16 y17 y18 y19 y20 y21 y22 y23 y24 y25 y26 y27 y28 y29 y30 y31 y32 y33 y34 y35 y36 y37 y38 y39 y40 y41 y42 y43 y44 y45 y46 y47 y48 y49 y50 y51 y52 y53 y54 y55 y56 y57 y58 y59 y60 y61 y62 y63 y103 y104 y105 y106 y107 y108 y109 y110 y111 y112 y113 y114 y115 y116 y117 y118 y119 y120 y121 y122 y123 y124 y125 y126 y127 y128 y129 y130 y131 y132 y133 y134 y135 y136 y137 y138 y139 y140 y141 y142 y143 y144 y145 y146 y147 y148 y149 y150 y151 y152 y153 y154 y155 y156 y157 y158 y159 y160 y161 y162 y163 y164 y165 y166 y167 y168 y169 y170 y171 y172 y173 y174 y175 y176 y177 y178 y179 y180 y181 y182 y183 y184 y185 y186 y187 y188 y189 y190 y191 y192 y193 y194 y195 y196 y197 y198 y199 y200 y201 y202 y203 y204 y205 y206 y207 y208 y209 y210 y211 y212 y213 y214 y215 y216 y217 y218 y219 y220 y221 y222 y223 y224 y225 y226 y227 y228 y229 y230 y231 y232 y233 y234 y235 y236 y237 y238 y239 y240 y241 y242 y243 y244 y245 y246 y247 y248 y249 y250 y251 y252 y253 y254 y255 y256 y257 y258 y259 y260 y261 y262 y263 y264 y265 y266 y267 y268 y269 y270 y271 y272 y273 y274 y275 y276 y277 y278 y279 y280 y281 y282 y283 y284 y285 y286 y287 y288 y289 y290 y291 y292 y293 y294 y295 y296 y297 y298 y299 y300 y301 y302 y303 y304 y305 y306 y307 y308 y309 y310 y311 y312 y313 y314 y315 y316 y317 y318 y319 y320 y321 y322 y323 y324 y325 y326 y327 y328 y329 y330 y331 y332 y333 y334 y335 y336 y337 y338 y339 y340 y341 y342 y343 : Value} {P : Program} {ops : Array Oper} {Q : Exit → Act → World → Prop} {i : Nat} {o : Oper} (hq : ∀ x64 x65 x66 x67 x68 x69 x70 x71 x72 x73 x74 x75 x76 x77 x78 x79 x80 x81 x82 x83 x84 x85 x86 x87 x88 x89 x90 x91 x92 x93 x94 x95 x96 x97 x98 x99 x100 x101 x102 (L : Nat → Bool) (W : World), KP11 W1 y ix icx iy icy T G cq n g3 g7 ict it Ev CX CY CZ CM CT L x64 x65 x66 x67 x68 x69 x70 x71 x72 x73 x74 x75 x76 x77 x78 x79 x80 x81 x82 x83 x84 x85 x86 x87 x88 x89 x90 x91 x92 x93 x94 x95 x96 x97 x98 x99 x100 x101 x102 W → L i = false → (∀ j ∈ onesOf o, L j = true) → ∀ K : Act → World → Prop, Shut (∀ a' w', IKP11 W1 y ix icx iy icy T G cq n g3 g7 ict it Ev CX CY CZ CM CT y0 y1 y2 y3 y4 y5 y6 y7 y8 y9 y10 y11 y12 y13 y14 y15 y16 y17 y18 y19 y20 y21 y22 y23 y24 y25 y26 y27 y28 y29 y30 y31 y32 y33 y34 y35 y36 y37 y38 y39 y40 y41 y42 y43 y44 y45 y46 y47 y48 y49 y50 y51 y52 y53 y54 y55 y56 y57 y58 y59 y60 y61 y62 y63 y103 y104 y105 y106 y107 y108 y109 y110 y111 y112 y113 y114 y115 y116 y117 y118 y119 y120 y121 y122 y123 y124 y125 y126 y127 y128 y129 y130 y131 y132 y133 y134 y135 y136 y137 y138 y139 y140 y141 y142 y143 y144 y145 y146 y147 y148 y149 y150 y151 y152 y153 y154 y155 y156 y157 y158 y159 y160 y161 y162 y163 y164 y165 y166 y167 y168 y169 y170 y171 y172 y173 y174 y175 y176 y177 y178 y179 y180 y181 y182 y183 y184 y185 y186 y187 y188 y189 y190 y191 y192 y193 y194 y195 y196 y197 y198 y199 y200 y201 y202 y203 y204 y205 y206 y207 y208 y209 y210 y211 y212 y213 y214 y215 y216 y217 y218 y219 y220 y221 y222 y223 y224 y225 y226 y227 y228 y229 y230 y231 y232 y233 y234 y235 y236 y237 y238 y239 y240 y241 y242 y243 y244 y245 y246 y247 y248 y249 y250 y251 y252 y253 y254 y255 y256 y257 y258 y259 y260 y261 y262 y263 y264 y265 y266 y267 y268 y269 y270 y271 y272 y273 y274 y275 y276 y277 y278 y279 y280 y281 y282 y283 y284 y285 y286 y287 y288 y289 y290 y291 y292 y293 y294 y295 y296 y297 y298 y299 y300 y301 y302 y303 y304 y305 y306 y307 y308 y309 y310 y311 y312 y313 y314 y315 y316 y317 y318 y319 y320 y321 y322 y323 y324 y325 y326 y327 y328 y329 y330 y331 y332 y333 y334 y335 y336 y337 y338 y339 y340 y341 y342 y343 (upd L i) a' w' → K a' w') → if Region.wanted o (yielded ops (⟨#[y0, y1, y2, y3, y4, y5, y6, y7, y8, y9, y10, y11, y12, y13, y14, y15, y16, y17, y18, y19, y20, y21, y22, y23, y24, y25, y26, y27, y28, y29, y30, y31, y32, y33, y34, y35, y36, y37, y38, y39, y40, y41, y42, y43, y44, y45, y46, y47, y48, y49, y50, y51, y52, y53, y54, y55, y56, y57, y58, y59, y60, y61, y62, y63, x64, x65, x66, x67, x68, x69, x70, x71, x72, x73, x74, x75, x76, x77, x78, x79, x80, x81, x82, x83, x84, x85, x86, x87, x88, x89, x90, x91, x92, x93, x94, x95, x96, x97, x98, x99, x100, x101, x102, y103, y104, y105, y106, y107, y108, y109, y110, y111, y112, y113, y114, y115, y116, y117, y118, y119, y120, y121, y122, y123, y124, y125, y126, y127, y128, y129, y130, y131, y132, y133, y134, y135, y136, y137, y138, y139, y140, y141, y142, y143, y144, y145, y146, y147, y148, y149, y150, y151, y152, y153, y154, y155, y156, y157, y158, y159, y160, y161, y162, y163, y164, y165, y166, y167, y168, y169, y170, y171, y172, y173, y174, y175, y176, y177, y178, y179, y180, y181, y182, y183, y184, y185, y186, y187, y188, y189, y190, y191, y192, y193, y194, y195, y196, y197, y198, y199, y200, y201, y202, y203, y204, y205, y206, y207, y208, y209, y210, y211, y212, y213, y214, y215, y216, y217, y218, y219, y220, y221, y222, y223, y224, y225, y226, y227, y228, y229, y230, y231, y232, y233, y234, y235, y236, y237, y238, y239, y240, y241, y242, y243, y244, y245, y246, y247, y248, y249, y250, y251, y252, y253, y254, y255, y256, y257, y258, y259, y260, y261, y262, y263, y264, y265, y266, y267, y268, y269, y270, y271, y272, y273, y274, y275, y276, y277, y278, y279, y280, y281, y282, y283, y284, y285, y286, y287, y288, y289, y290, y291, y292, y293, y294, y295, y296, y297, y298, y299, y300, y301, y302, y303, y304, y305, y306, y307, y308, y309, y310, y311, y312, y313, y314, y315, y316, y317, y318, y319, y320, y321, y322, y323, y324, y325, y326, y327, y328, y329, y330, y331, y332, y333, y334, y335, y336, y337, y338, y339, y340, y341, y342, y343], []⟩ : Act).tmps) = true then Oper.wp P o ⟨#[y0, y1, y2, y3, y4, y5, y6, y7, y8, y9, y10, y11, y12, y13, y14, y15, y16, y17, y18, y19, y20, y21, y22, y23, y24, y25, y26, y27, y28, y29, y30, y31, y32, y33, y34, y35, y36, y37, y38, y39, y40, y41, y42, y43, y44, y45, y46, y47, y48, y49, y50, y51, y52, y53, y54, y55, y56, y57, y58, y59, y60, y61, y62, y63, x64, x65, x66, x67, x68, x69, x70, x71, x72, x73, x74, x75, x76, x77, x78, x79, x80, x81, x82, x83, x84, x85, x86, x87, x88, x89, x90, x91, x92, x93, x94, x95, x96, x97, x98, x99, x100, x101, x102, y103, y104, y105, y106, y107, y108, y109, y110, y111, y112, y113, y114, y115, y116, y117, y118, y119, y120, y121, y122, y123, y124, y125, y126, y127, y128, y129, y130, y131, y132, y133, y134, y135, y136, y137, y138, y139, y140, y141, y142, y143, y144, y145, y146, y147, y148, y149, y150, y151, y152, y153, y154, y155, y156, y157, y158, y159, y160, y161, y162, y163, y164, y165, y166, y167, y168, y169, y170, y171, y172, y173, y174, y175, y176, y177, y178, y179, y180, y181, y182, y183, y184, y185, y186, y187, y188, y189, y190, y191, y192, y193, y194, y195, y196, y197, y198, y199, y200, y201, y202, y203, y204, y205, y206, y207, y208, y209, y210, y211, y212, y213, y214, y215, y216, y217, y218, y219, y220, y221, y222, y223, y224, y225, y226, y227, y228, y229, y230, y231, y232, y233, y234, y235, y236, y237, y238, y239, y240, y241, y242, y243, y244, y245, y246, y247, y248, y249, y250, y251, y252, y253, y254, y255, y256, y257, y258, y259, y260, y261, y262, y263, y264, y265, y266, y267, y268, y269, y270, y271, y272, y273, y274, y275, y276, y277, y278, y279, y280, y281, y282, y283, y284, y285, y286, y287, y288, y289, y290, y291, y292, y293, y294, y295, y296, y297, y298, y299, y300, y301, y302, y303, y304, y305, y306, y307, y308, y309, y310, y311, y312, y313, y314, y315, y316, y317, y318, y319, y320, y321, y322, y323, y324, y325, y326, y327, y328, y329, y330, y331, y332, y333, y334, y335, y336, y337, y338, y339, y340, y341, y342, y343], []⟩ W K Q else K ((⟨#[y0, y1, y2, y3, y4, y5, y6, y7, y8, y9, y10, y11, y12, y13, y14, y15, y16, y17, y18, y19, y20, y21, y22, y23, y24, y25, y26, y27, y28, y29, y30, y31, y32, y33, y34, y35, y36, y37, y38, y39, y40, y41, y42, y43, y44, y45, y46, y47, y48, y49, y50, y51, y52, y53, y54, y55, y56, y57, y58, y59, y60, y61, y62, y63, x64, x65, x66, x67, x68, x69, x70, x71, x72, x73, x74, x75, x76, x77, x78, x79, x80, x81, x82, x83, x84, x85, x86, x87, x88, x89, x90, x91, x92, x93, x94, x95, x96, x97, x98, x99, x100, x101, x102, y103, y104, y105, y106, y107, y108, y109, y110, y111, y112, y113, y114, y115, y116, y117, y118, y119, y120, y121, y122, y123, y124, y125, y126, y127, y128, y129, y130, y131, y132, y133, y134, y135, y136, y137, y138, y139, y140, y141, y142, y143, y144, y145, y146, y147, y148, y149, y150, y151, y152, y153, y154, y155, y156, y157, y158, y159, y160, y161, y162, y163, y164, y165, y166, y167, y168, y169, y170, y171, y172, y173, y174, y175, y176, y177, y178, y179, y180, y181, y182, y183, y184, y185, y186, y187, y188, y189, y190, y191, y192, y193, y194, y195, y196, y197, y198, y199, y200, y201, y202, y203, y204, y205, y206, y207, y208, y209, y210, y211, y212, y213, y214, y215, y216, y217, y218, y219, y220, y221, y222, y223, y224, y225, y226, y227, y228, y229, y230, y231, y232, y233, y234, y235, y236, y237, y238, y239, y240, y241, y242, y243, y244, y245, y246, y247, y248, y249, y250, y251, y252, y253, y254, y255, y256, y257, y258, y259, y260, y261, y262, y263, y264, y265, y266, y267, y268, y269, y270, y271, y272, y273, y274, y275, y276, y277, y278, y279, y280, y281, y282, y283, y284, y285, y286, y287, y288, y289, y290, y291, y292, y293, y294, y295, y296, y297, y298, y299, y300, y301, y302, y303, y304, y305, y306, y307, y308, y309, y310, y311, y312, y313, y314, y315, y316, y317, y318, y319, y320, y321, y322, y323, y324, y325, y326, y327, y328, y329, y330, y331, y332, y333, y334, y335, y336, y337, y338, y339, y340, y341, y342, y343], []⟩ : Act).put o.dst undef) W) : StepI P ops (IKP11 W1 y ix icx iy icy T G cq n g3 g7 ict it Ev CX CY CZ CM CT y0 y1 y2 y3 y4 y5 y6 y7 y8 y9 y10 y11 y12 y13 y14 y15 y16 y17 y18 y19 y20 y21 y22 y23 y24 y25 y26 y27 y28 y29 y30 y31 y32 y33 y34 y35 y36 y37 y38 y39 y40 y41 y42 y43 y44 y45 y46 y47 y48 y49 y50 y51 y52 y53 y54 y55 y56 y57 y58 y59 y60 y61 y62 y63 y103 y104 y105 y106 y107 y108 y109 y110 y111 y112 y113 y114 y115 y116 y117 y118 y119 y120 y121 y122 y123 y124 y125 y126 y127 y128 y129 y130 y131 y132 y133 y134 y135 y136 y137 y138 y139 y140 y141 y142 y143 y144 y145 y146 y147 y148 y149 y150 y151 y152 y153 y154 y155 y156 y157 y158 y159 y160 y161 y162 y163 y164 y165 y166 y167 y168 y169 y170 y171 y172 y173 y174 y175 y176 y177 y178 y179 y180 y181 y182 y183 y184 y185 y186 y187 y188 y189 y190 y191 y192 y193 y194 y195 y196 y197 y198 y199 y200 y201 y202 y203 y204 y205 y206 y207 y208 y209 y210 y211 y212 y213 y214 y215 y216 y217 y218 y219 y220 y221 y222 y223 y224 y225 y226 y227 y228 y229 y230 y231 y232 y233 y234 y235 y236 y237 y238 y239 y240 y241 y242 y243 y244 y245 y246 y247 y248 y249 y250 y251 y252 y253 y254 y255 y256 y257 y258 y259 y260 y261 y262 y263 y264 y265 y266 y267 y268 y269 y270 y271 y272 y273 y274 y275 y276 y277 y278 y279 y280 y281 y282 y283 y284 y285 y286 y287 y288 y289 y290 y291 y292 y293 y294 y295 y296 y297 y298 y299 y300 y301 y302 y303 y304 y305 y306 y307 y308 y309 y310 y311 y312 y313 y314 y315 y316 y317 y318 y319 y320 y321 y322 y323 y324 y325 y326 y327 y328 y329 y330 y331 y332 y333 y334 y335 y336 y337 y338 y339 y340 y341 y342 y343) Q i o := by
  rintro L a W ⟨x64, x65, x66, x67, x68, x69, x70, x71, x72, x73, x74, x75, x76, x77, x78, x79, x80, x81, x82, x83, x84, x85, x86, x87, x88, x89, x90, x91, x92, x93, x94, x95, x96, x97, x98, x99, x100, x101, x102, rfl, h⟩
  exact hq _ _ _ _ _ _ _ _ _ _ _ _ _ _ _ _ _ _ _ _ _ _ _ _ _ _ _ _ _ _ _ _ _ _ _ _ _ _ _ _ _ h
set_option maxHeartbeats 8000000 in
theorem kp9 (c0 c1 c2 c4 c5 c6 c8 c12 c15 c16 c17 c18 c19 c20 c21 c22 c23 c24 c25 c26 c27 c28 c29 c30 c31 c32 c33 c34 c35 c36 c37 c38 c39 c40 c41 c42 c43 c44 c45 c46 c47 c48 c49 c50 c51 c52 c53 c54 c55 c56 c57 c58 c59 c60 c61 c62 c63 c64 c65 c66 c67 c68 c69 c70 c71 c72 c73 c74 c75 c76 c77 c78 c79 c80 c81 c82 c83 c84 c85 c86 c87 c88 c89 c90 c91 c92 c93 c94 c95 c96 c97 c98 c99 c100 c101 c102 c103 c104 c105 c106 c107 c108 c109 c110 c111 c112 c113 c114 c115 c116 c117 c118 c119 c120 c121 c122 c123 c124 c125 c126 c127 c128 c129 c130 c131 c132 c133 c134 c135 c136 c137 c138 c139 c140 c141 c142 c143 c144 c145 c146 c147 c148 c149 c150 c151 c152 c153 c154 c155 c156 c157 c158 c159 c160 c161 c162 c163 c164 c165 c166 c167 c168 c169 c170 c171 c172 c173 c174 c175 c176 c177 c178 c179 c180 c181 c182 c183 c184 c185 c186 c187 c188 c189 c190 c191 c192 c193 c194 c195 c196 c197 c198 c199 c200 c201 c202 c203 c204 c205 c206 c207 c208 c209 c210 c211 c212 c213 c214 c215 c216 c217 c218 c219 c220 c221 c222 c223 c224 c225 c226 c227 c228 c229 c230 c231 c232 c233 c234 c235 c236 c237 c238 c239 c240 c241 c242 c243 c244 c245 c246 c247 c248 c249 c250 c251 c252 c253 c254 c255 c256 c257 c258 c259 c260 c261 c262 c263 c264 c265 c266 c267 c268 c269 c270 c271 c272 c273 c274 c275 c276 c277 c278 c279 c280 c281 c282 c283 c284 c285 c286 c287 c288 c289 c290 c291 c292 c293 c294 c295 c296 c297 c298 c299 c300 c301 c302 c303 c304 c305 c306 c307 c308 c309 c310 c311 c312 c313 c314 c315 c316 c317 c318 c319 c320 c321 c322 c323 c324 c325 c326 c327 c328 c329 c330 c331 c332 c333 c334 c335 c336 c337 c338 c339 c340 c341 c342 c343 : Value) (W1 : World) (g3 g7 gx gy gz cq G H ict lct : Nat) (T y : Tk) (it lt : Option Addr) (Ev : Int) (ix : Option Addr) (icx : Nat) (lx : Option Addr) (lcx : Nat) (iy : Option Addr) (icy : Nat) (ly : Option Addr) (lcy : Nat) (jo : Option Addr) (jc : Nat) (ko : Option Addr) (kc Nx Ny : Nat) (RX0 : TkR Nx W1 gx y ix icx lx lcx) (RY0 : TkR Ny W1 gy y iy icy ly lcy) (RZ0 : Row W1 gz 28 (tkCells y jo jc ko kc)) (VZ : TkV W1 y jo jc ko kc) (RM0 : Row W1 g7 40 (tkCells T (some ⟨G, 0, none⟩) cq (some ⟨H, 0, none⟩) (T.cs.length + 2))) (VM : TkV W1 T (some ⟨G, 0, none⟩) cq (some ⟨H, 0, none⟩) (T.cs.length + 2)) (RT0 : Row W1 g3 28 (tkCells T it ict lt lct)) (VT : TkV W1 T it ict lt lct) (OM : IsB W1 (some ⟨G, 0, none⟩) (T.id ++ mk3)) (hcq : T.id.length + 3 ≤ cq) (hy : y.cs.length ≤ 100000) (hT : T.cs.length ≤ 65536)
    (w : World)
    (NX : ∀ c0 c1 c4 c5 c6 c10 c12 c13 c15 c16 c17 c18 c19 c20 c21 c22 c23 c24 c25 c26 c27 c28 c29 c30 c31 c32 c33 c34 c35 c36 c37 c38 c39 c40 c41 c42 c43 c44 c45 c46 c47 c48 c49 c50 c51 c52 c53 c54 c55 c56 c57 c58 c59 c60 c61 c62 c63 c64 c65 c66 c67 c68 c69 c70 c71 c72 c73 c74 c75 c76 c77 c78 c79 c80 c81 c82 c83 c84 c85 c86 c87 c88 c89 c90 c91 c92 c93 c94 c95 c96 c97 c98 c99 c100 c101 c102 c103 c104 c105 c106 c107 c108 c109 c110 c111 c112 c113 c114 c115 c116 c117 c118 c119 c120 c121 c122 c123 c124 c125 c126 c127 c128 c129 c130 c131 c132 c133 c134 c135 c136 c137 c138 c139 c140 c141 c142 c143 c144 c145 c146 c147 c148 c149 c150 c151 c152 c153 c154 c155 c156 c157 c158 c159 c160 c161 c162 c163 c164 c165 c166 c167 c168 c169 c170 c171 c172 c173 c174 c175 c176 c177 c178 c179 c180 c181 c182 c183 c184 c185 c186 c187 c188 c189 c190 c191 c192 c193 c194 c195 c196 c197 c198 c199 c200 c201 c202 c203 c204 c205 c206 c207 c208 c209 c210 c211 c212 c213 c214 c215 c216 c217 c218 c219 c220 c221 c222 c223 c224 c225 c226 c227 c228 c229 c230 c231 c232 c233 c234 c235 c236 c237 c238 c239 c240 c241 c242 c243 c244 c245 c246 c247 c248 c249 c250 c251 c252 c253 c254 c255 c256 c257 c258 c259 c260 c261 c262 c263 c264 c265 c266 c267 c268 c269 c270 c271 c272 c273 c274 c275 c276 c277 c278 c279 c280 c281 c282 c283 c284 c285 c286 c287 c288 c289 c290 c291 c292 c293 c294 c295 c296 c297 c298 c299 c300 c301 c302 c303 c304 c305 c306 c307 c308 c309 c310 c311 c312 c313 c314 c315 c316 c317 c318 c319 c320 c321 c322 c323 c324 c325 c326 c327 c328 c329 c330 c331 c332 c333 c334 c335 c336 c337 c338 c339 c340 c341 c342 c343 W, Below W1.heap.size W1 W → Code.wp Tryz.prog (dropS 10 (Tryz.f5.body.getD .skip)) (bodyPost Tryz.prog Tryz.f5 (OkP w)) ⟨#[c0, c1, c2, .pointer (some ⟨g3, 0, none⟩), c4, c5, c6, .pointer (some ⟨g7, 0, none⟩), c8, .pointer (some ⟨gx, 0, none⟩), c10, .pointer (some ⟨gy, 0, none⟩), c12, c13, .int .i64 Ev, c15, c16, c17, c18, c19, c20, c21, c22, c23, c24, c25, c26, c27, c28, c29, c30, c31, c32, c33, c34, c35, c36, c37, c38, c39, c40, c41, c42, c43, c44, c45, c46, c47, c48, c49, c50, c51, c52, c53, c54, c55, c56, c57, c58, c59, c60, c61, c62, c63, c64, c65, c66, c67, c68, c69, c70, c71, c72, c73, c74, c75, c76, c77, c78, c79, c80, c81, c82, c83, c84, c85, c86, c87, c88, c89, c90, c91, c92, c93, c94, c95, c96, c97, c98, c99, c100, c101, c102, c103, c104, c105, c106, c107, c108, c109, c110, c111, c112, c113, c114, c115, c116, c117, c118, c119, c120, c121, c122, c123, c124, c125, c126, c127, c128, c129, c130, c131, c132, c133, c134, c135, c136, c137, c138, c139, c140, c141, c142, c143, c144, c145, c146, c147, c148, c149, c150, c151, c152, c153, c154, c155, c156, c157, c158, c159, c160, c161, c162, c163, c164, c165, c166, c167, c168, c169, c170, c171, c172, c173, c174, c175, c176, c177, c178, c179, c180, c181, c182, c183, c184, c185, c186, c187, c188, c189, c190, c191, c192, c193, c194, c195, c196, c197, c198, c199, c200, c201, c202, c203, c204, c205, c206, c207, c208, c209, c210, c211, c212, c213, c214, c215, c216, c217, c218, c219, c220, c221, c222, c223, c224, c225, c226, c227, c228, c229, c230, c231, c232, c233, c234, c235, c236, c237, c238, c239, c240, c241, c242, c243, c244, c245, c246, c247, c248, c249, c250, c251, c252, c253, c254, c255, c256, c257, c258, c259, c260, c261, c262, c263, c264, c265, c266, c267, c268, c269, c270, c271, c272, c273, c274, c275, c276, c277, c278, c279, c280, c281, c282, c283, c284, c285, c286, c287, c288, c289, c290, c291, c292, c293, c294, c295, c296, c297, c298, c299, c300, c301, c302, c303, c304, c305, c306, c307, c308, c309, c310, c311, c312, c313, c314, c315, c316, c317, c318, c319, c320, c321, c322, c323, c324, c325, c326, c327, c328, c329, c330, c331, c332, c333, c334, c335, c336, c337, c338, c339, c340, c341, c342, c343], []⟩ W) :
    Code.wp Tryz.prog (dropS 9 (Tryz.f5.body.getD .skip)) (bodyPost Tryz.prog Tryz.f5 (OkP w)) ⟨#[c0, c1, c2, .pointer (some ⟨g3, 0, none⟩), c4, c5, c6, .pointer (some ⟨g7, 0, none⟩), c8, .pointer (some ⟨gx, 0, none⟩), .int .i64 Ev, .pointer (some ⟨gy, 0, none⟩), c12, .pointer (some ⟨gz, 0, none⟩), .int .i64 Ev, c15, c16, c17, c18, c19, c20, c21, c22, c23, c24, c25, c26, c27, c28, c29, c30, c31, c32, c33, c34, c35, c36, c37, c38, c39, c40, c41, c42, c43, c44, c45, c46, c47, c48, c49, c50, c51, c52, c53, c54, c55, c56, c57, c58, c59, c60, c61, c62, c63, c64, c65, c66, c67, c68, c69, c70, c71, c72, c73, c74, c75, c76, c77, c78, c79, c80, c81, c82, c83, c84, c85, c86, c87, c88, c89, c90, c91, c92, c93, c94, c95, c96, c97, c98, c99, c100, c101, c102, c103, c104, c105, c106, c107, c108, c109, c110, c111, c112, c113, c114, c115, c116, c117, c118, c119, c120, c121, c122, c123, c124, c125, c126, c127, c128, c129, c130, c131, c132, c133, c134, c135, c136, c137, c138, c139, c140, c141, c142, c143, c144, c145, c146, c147, c148, c149, c150, c151, c152, c153, c154, c155, c156, c157, c158, c159, c160, c161, c162, c163, c164, c165, c166, c167, c168, c169, c170, c171, c172, c173, c174, c175, c176, c177, c178, c179, c180, c181, c182, c183, c184, c185, c186, c187, c188, c189, c190, c191, c192, c193, c194, c195, c196, c197, c198, c199, c200, c201, c202, c203, c204, c205, c206, c207, c208, c209, c210, c211, c212, c213, c214, c215, c216, c217, c218, c219, c220, c221, c222, c223, c224, c225, c226, c227, c228, c229, c230, c231, c232, c233, c234, c235, c236, c237, c238, c239, c240, c241, c242, c243, c244, c245, c246, c247, c248, c249, c250, c251, c252, c253, c254, c255, c256, c257, c258, c259, c260, c261, c262, c263, c264, c265, c266, c267, c268, c269, c270, c271, c272, c273, c274, c275, c276, c277, c278, c279, c280, c281, c282, c283, c284, c285, c286, c287, c288, c289, c290, c291, c292, c293, c294, c295, c296, c297, c298, c299, c300, c301, c302, c303, c304, c305, c306, c307, c308, c309, c310, c311, c312, c313, c314, c315, c316, c317, c318, c319, c320, c321, c322, c323, c324, c325, c326, c327, c328, c329, c330, c331, c332, c333, c334, c335, c336, c337, c338, c339, c340, c341, c342, c343], []⟩ W1 := by
  have NXT : Hid _ := NX
  have Y32 : Hid (y.tag.length = 32 ∧ T.tag.length = 32) := ⟨VZ.tag, VT.tag⟩
  obtain ⟨n, hn⟩ : ∃ n, T.id.length = n := ⟨_, rfl⟩
  have HN : Hid (T.id.length = n ∧ n + 3 ≤ cq ∧ n ≤ 140737488351232) := ⟨hn, by omega, by rw [← hn]; exact VT.big⟩
  have c7 : ∀ W, Below W1.heap.size W1 W → W.cell? ⟨g7, 1, none⟩ = some (.slice (some ⟨G, 0, none⟩) n cq) := fun W h => by rw [← hn]; exact (RM0.below h RM0.lt).cell 1 _ rfl
  have c3 : ∀ W, Below W1.heap.size W1 W → W.cell? ⟨g3, 1, none⟩ = some (.slice it n ict) := fun W h => by rw [← hn]; exact (RT0.below h RT0.lt).cell 1 _ rfl
  have MC : Hid (∀ W, Below W1.heap.size W1 W → IsB W (some ⟨G, n, none⟩) mk3) := fun W h => by rw [← hn]; exact isb_suf (OM.below h (Nat.le_refl _))
  have C7 : Hid (∀ W, Below W1.heap.size W1 W → W.cell? ⟨g7, 1, none⟩ = some (.slice (some ⟨G, 0, none⟩) n cq)) := c7
  have C3 : Hid (∀ W, Below W1.heap.size W1 W → W.cell? ⟨g3, 1, none⟩ = some (.slice it n ict)) := c3
  obtain ⟨CX, hCX⟩ : ∃ CX, CX = tkCells y ix icx lx lcx := ⟨_, rfl⟩
  obtain ⟨CY, hCY⟩ : ∃ CY, CY = tkCells y iy icy ly lcy := ⟨_, rfl⟩
  obtain ⟨CZ, hCZ⟩ : ∃ CZ, CZ = tkCells y jo jc ko kc := ⟨_, rfl⟩
  obtain ⟨CM, hCM⟩ : ∃ CM, CM = tkCells T (some ⟨G, 0, none⟩) cq (some ⟨H, 0, none⟩) (T.cs.length + 2) := ⟨_, rfl⟩
  obtain ⟨CT, hCT⟩ : ∃ CT, CT = tkCells T it ict lt lct := ⟨_, rfl⟩
  have LX : Hid (CX.length = 35) := by rw [hCX]; exact tkC_len Y32.out.1
  have LY : Hid (CY.length = 35) := by rw [hCY]; exact tkC_len Y32.out.1
  have LZ : Hid (CZ.length = 35) := by rw [hCZ]; exact tkC_len Y32.out.1
  have LM : Hid (CM.length = 35) := by rw [hCM]; exact tkC_len Y32.out.2
  have LT : Hid (CT.length = 35) := by rw [hCT]; exact tkC_len Y32.out.2
  have PX : Hid ((CX.drop 0).take 35 = CX) := by show _ = _; rw [List.drop_zero, List.take_of_length_le (by rw [LX.out]; exact Nat.le_refl _)]
  have PY : Hid ((CY.drop 0).take 35 = CY) := by show _ = _; rw [List.drop_zero, List.take_of_length_le (by rw [LY.out]; exact Nat.le_refl _)]
  have PZ : Hid ((CZ.drop 0).take 35 = CZ) := by show _ = _; rw [List.drop_zero, List.take_of_length_le (by rw [LZ.out]; exact Nat.le_refl _)]
  have PM : Hid ((CM.drop 0).take 35 = CM) := by show _ = _; rw [List.drop_zero, List.take_of_length_le (by rw [LM.out]; exact Nat.le_refl _)]
  have PT : Hid ((CT.drop 0).take 35 = CT) := by show _ = _; rw [List.drop_zero, List.take_of_length_le (by rw [LT.out]; exact Nat.le_refl _)]
  have RRX : Hid (∀ W, Below W1.heap.size W1 W → Row W gx 40 CX) := fun W h => by rw [hCX]; exact (RX0.keep h).row
  have RRY : Hid (∀ W, Below W1.heap.size W1 W → Row W gy 40 CY) := fun W h => by rw [hCY]; exact (RY0.keep h).row
  have RRZ : Hid (∀ W, Below W1.heap.size W1 W → Row W gz 28 CZ) := fun W h => by rw [hCZ]; exact RZ0.below h RZ0.lt
  have RRM : Hid (∀ W, Below W1.heap.size W1 W → Row W g7 40 CM) := fun W h => by rw [hCM]; exact RM0.below h RM0.lt
  have RRT : Hid (∀ W, Below W1.heap.size W1 W → Row W g3 28 CT) := fun W h => by rw [hCT]; exact RT0.below h RT0.lt
  have BKX : Hid (∀ W, Below W1.heap.size W1 W → Calls Tryz.prog 13 #[.agg CX.toArray] W (BackP y ix icx W)) := fun W h => by rw [hCX]; exact l24back_any y ix icx lx lcx W (RX0.keep h).own.v hy
  have BKY : Hid (∀ W, Below W1.heap.size W1 W → Calls Tryz.prog 13 #[.agg CY.toArray] W (BackP y iy icy W)) := fun W h => by rw [hCY]; exact l24back_any y iy icy ly lcy W (RY0.keep h).own.v hy
  have BKM : Hid (∀ W, Below W1.heap.size W1 W → Calls Tryz.prog 13 #[.agg CM.toArray] W (BackP T (some ⟨G, 0, none⟩) cq W)) := fun W h => by rw [hCM]; exact l24back_any T _ cq _ _ W (VM.keep h) (by omega)
  have SMX : Hid (∀ W lo9 lc9, Below W1.heap.size W1 W → TkV W y ix icx lo9 lc9 → Calls Tryz.prog 12 #[.agg (tkCells y ix icx lo9 lc9).toArray, .agg CZ.toArray] W fun e w' => e = .returned (.bool true) ∧ Below W.heap.size W w') := fun W lo9 lc9 h hv => by rw [hCZ]; exact r24Same_any y y ix icx lo9 lc9 jo jc ko kc W hv (VZ.keep h) (by omega) true (by simp)
  have SMY : Hid (∀ W lo9 lc9, Below W1.heap.size W1 W → TkV W y iy icy lo9 lc9 → Calls Tryz.prog 12 #[.agg (tkCells y iy icy lo9 lc9).toArray, .agg CZ.toArray] W fun e w' => e = .returned (.bool true) ∧ Below W.heap.size W w') := fun W lo9 lc9 h hv => by rw [hCZ]; exact r24Same_any y y iy icy lo9 lc9 jo jc ko kc W hv (VZ.keep h) (by omega) true (by simp)
  have SMM : Hid (∀ W lo9 lc9, Below W1.heap.size W1 W → TkV W T (some ⟨G, 0, none⟩) cq lo9 lc9 → Calls Tryz.prog 12 #[.agg (tkCells T (some ⟨G, 0, none⟩) cq lo9 lc9).toArray, .agg CT.toArray] W fun e w' => e = .returned (.bool true) ∧ Below W.heap.size W w') := fun W lo9 lc9 h hv => by rw [hCT]; exact r24Same_any T T _ cq lo9 lc9 it ict lt lct W hv (VT.keep h) (by omega) true (by simp)
  have e2 : (Ev == Ev) = true := by simp
  have e3 : (Ev != Ev) = false := by simp
  have ES : Hid (((strOf mk3).toList == [161, 162, 163]) = true) := strOf_mk3
  have z3 : IntKind.i64.wrap ((n : Int) + 3) = (n : Int) + 3 := i64_in _ (by omega) (by have := HN.out.2.2; omega)
  have y3 : (0 : Int) ≤ (n : Int) + 3 := by omega
  have y4 : (n : Int) + 3 ≤ (cq : Int) := by have := HN.out.2.1; omega
  have y5 : (0 : Int) ≤ (n : Int) := by omega
  have y6 : (n : Int) ≤ (n : Int) + 3 := by omega
  have y7 : ¬ cq = n := by have := HN.out.2.1; omega
  clear hCX hCY hCZ hCM hCT RX0 RY0 RZ0 VZ RM0 VM RT0 VT OM hcq hy hT c7 c3 hn NX
  conv => arg 2; whnf
  refine wp_seq_k fun K hK => ?_
  have HK : Hid _ := hK
  clear hK
  go_upto_region 11 with fail
  refine wp_region_inv (IKP11 W1 y ix icx iy icy T G cq n g3 g7 ict it Ev CX CY CZ CM CT _ _ _ _ _ _ _ _ _ _ _ _ _ _ _ _ _ _ _ _ _ _ _ _ _ _ _ _ _ _ _ _ _ _ _ _ _ _ _ _ _ _ _ _ _ _ _ _ _ _ _ _ _ _ _ _ _ _ _ _ _ _ _ _ _ _ _ _ _ _ _ _ _ _ _ _ _ _ _ _ _ _ _ _ _ _ _ _ _ _ _ _ _ _ _ _ _ _ _ _ _ _ _ _ _ _ _ _ _ _ _ _ _ _ _ _ _ _ _ _ _ _ _ _ _ _ _ _ _ _ _ _ _ _ _ _ _ _ _ _ _ _ _ _ _ _ _ _ _ _ _ _ _ _ _ _ _ _ _ _ _ _ _ _ _ _ _ _ _ _ _ _ _ _ _ _ _ _ _ _ _ _ _ _ _ _ _ _ _ _ _ _ _ _ _ _ _ _ _ _ _ _ _ _ _ _ _ _ _ _ _ _ _ _ _ _ _ _ _ _ _ _ _ _ _ _ _ _ _ _ _ _ _ _ _ _ _ _ _ _ _ _ _ _ _ _ _ _ _ _ _ _ _ _ _ _ _ _ _ _ _ _ _ _ _ _ _ _ _ _ _ _ _ _ _ _ _ _ _ _ _ _ _ _ _ _ _ _ _ _ _ _ _ _ _ _ _ _ _ _ _ _ _ _ _) (by kernel_rfl) (by kernel_rfl) ⟨_, _, _, _, _, _, _, _, _, _, _, _, _, _, _, _, _, _, _, _, _, _, _, _, _, _, _, _, _, _, _, _, _, _, _, _, _, _, _, rfl, ⟨⟨BS.zero _ _ _ _ _, BS.zero _ _ _ _ _, BS.zero _ _ _ _ _⟩, fun k => (by cases k), fun k => (by cases k), fun k => (by cases k), fun k => (by cases k), fun k => (by cases k), fun k => (by cases k), fun k => (by cases k), fun k => (by cases k), fun k => (by cases k), fun k => (by cases k), fun k => (by cases k), fun k => (by cases k), fun k => (by cases k), fun k => (by cases k), fun k => (by cases k), fun k => (by cases k), fun k => (by cases k), fun k => (by cases k), fun k => (by cases k), fun k => (by cases k), fun k => (by cases k), fun k => (by cases k), fun k => (by cases k), fun k => (by cases k), fun k => (by cases k), fun k => (by cases k), fun k => (by cases k), fun k => (by cases k), fun k => (by cases k), fun k => (by cases k), fun k => (by cases k), fun k => (by cases k), fun k => (by cases k), fun k => (by cases k), fun k => (by cases k), fun k => (by cases k)⟩⟩ ?_ ?_
  · refine .cons ?_ (.cons ?_ (.cons ?_ (.cons ?_ (.cons ?_ (.cons ?_ (.cons ?_ (.cons ?_ (.cons ?_ (.cons ?_ (.cons ?_ (.cons ?_ (.cons ?_ (.cons ?_ (.cons ?_ (.cons ?_ (.cons ?_ (.cons ?_ (.cons ?_ (.cons ?_ (.cons ?_ (.cons ?_ (.cons ?_ (.cons ?_ (.cons ?_ (.cons ?_ (.cons ?_ (.cons ?_ (.cons ?_ (.cons ?_ (.cons ?_ (.cons ?_ (.cons ?_ (.cons ?_ (.cons ?_ (.cons ?_ (.cons ?_ (.cons ?_ (.cons ?_ .nil))))))))))))))))))))))))))))))))))))))
    all_goals (refine KP11.step ?_; intro x64 x65 x66 x67 x68 x69 x70 x71 x72 x73 x74 x75 x76 x77 x78 x79 x80 x81 x82 x83 x84 x85 x86 x87 x88 x89 x90 x91 x92 x93 x94 x95 x96 x97 x98 x99 x100 x101 x102 L W hI hL hd K hK)
    · rw [if_pos (by rfl)]
      go_simp
      exact hK.out _ _ ⟨_, _, _, _, _, _, _, _, _, _, _, _, _, _, _, _, _, _, _, _, _, _, _, _, _, _, _, _, _, _, _, _, _, _, _, _, _, _, _, rfl, { hI with p0 := fun _ => rfl }⟩
    · rw [if_pos (by rfl)]
      go_simp
      exact hK.out _ _ ⟨_, _, _, _, _, _, _, _, _, _, _, _, _, _, _, _, _, _, _, _, _, _, _, _, _, _, _, _, _, _, _, _, _, _, _, _, _, _, _, rfl, { hI with p1 := fun _ => rfl }⟩
    · obtain rfl := hI.p0 (hd 0 (by decide))
      obtain rfl := hI.p1 (hd 1 (by decide))
      rw [if_pos (by rfl)]
      go_simp
      exact hK.out _ _ ⟨_, _, _, _, _, _, _, _, _, _, _, _, _, _, _, _, _, _, _, _, _, _, _, _, _, _, _, _, _, _, _, _, _, _, _, _, _, _, _, rfl, { hI with p2 := fun _ => rfl }⟩
    · obtain rfl := hI.p2 (hd 2 (by decide))
      rw [if_pos (by rfl)]
      go_simp
      exact hK.out _ _ ⟨_, _, _, _, _, _, _, _, _, _, _, _, _, _, _, _, _, _, _, _, _, _, _, _, _, _, _, _, _, _, _, _, _, _, _, _, _, _, _, rfl, { hI with p3 := fun _ => rfl }⟩
    · obtain rfl := hI.p3 (hd 3 (by decide))
      refine step_load_part (by rfl) 40 _ rfl gx 0 40 35 CX (RRX.out W hI.x.a.bel) rfl _ CX PX.out LX.out Tryz.underlying40 rfl (by kernel_rfl) ?_
      exact hK.out _ _ ⟨_, _, _, _, _, _, _, _, _, _, _, _, _, _, _, _, _, _, _, _, _, _, _, _, _, _, _, _, _, _, _, _, _, _, _, _, _, _, _, rfl, { hI with p4 := fun _ => rfl }⟩
    · obtain rfl := hI.p4 (hd 4 (by decide))
      obtain rfl := hI.p3 (hd 3 (by decide))
      rw [if_pos (by rfl)]
      go_simp
      refine (BKX.out W hI.x.a.bel).mono ?_
      rintro e W2 ⟨lo9, lc9, rfl, hv9, hb9⟩
      go_simp
      have hX := BS3.mk (hI.x.a.s hb9 hv9 (q' := true)) (hI.x.b.keep hb9) (hI.x.c.keep hb9)
      exact hK.out _ _ ⟨_, _, _, _, _, _, _, _, _, _, _, _, _, _, _, _, _, _, _, _, _, _, _, _, _, _, _, _, _, _, _, _, _, _, _, _, _, _, _, rfl, { hI with x := hX }⟩
    · obtain rfl := hI.p3 (hd 3 (by decide))
      refine step_load_part (by rfl) 28 _ rfl gz 0 28 35 CZ (RRZ.out W hI.x.a.bel) rfl _ CZ PZ.out LZ.out Tryz.underlying28 rfl (by kernel_rfl) ?_
      exact hK.out _ _ ⟨_, _, _, _, _, _, _, _, _, _, _, _, _, _, _, _, _, _, _, _, _, _, _, _, _, _, _, _, _, _, _, _, _, _, _, _, _, _, _, rfl, { hI with p6 := fun _ => rfl }⟩
    · obtain rfl := hI.p6 (hd 6 (by decide))
      obtain rfl := hI.p3 (hd 3 (by decide))
      rw [if_pos (by rfl)]
      go_simp
      obtain ⟨lo9, lc9, e9, hv9⟩ := hI.x.a.p (hd 5 (by decide))
      subst e9
      refine (SMX.out W lo9 lc9 hI.x.a.bel hv9).mono ?_
      rintro e W2 ⟨rfl, hb9⟩
      go_simp
      have hX := BS3.mk (hI.x.a.keep hb9) (hI.x.b.keep hb9) (hI.x.c.keep hb9)
      exact hK.out _ _ ⟨_, _, _, _, _, _, _, _, _, _, _, _, _, _, _, _, _, _, _, _, _, _, _, _, _, _, _, _, _, _, _, _, _, _, _, _, _, _, _, rfl, { hI with x := hX, p7 := fun _ => rfl }⟩
    · obtain rfl := hI.p7 (hd 7 (by decide))
      obtain rfl := hI.p3 (hd 3 (by decide))
      rw [if_pos (by rfl)]
      go_simp
      exact hK.out _ _ ⟨_, _, _, _, _, _, _, _, _, _, _, _, _, _, _, _, _, _, _, _, _, _, _, _, _, _, _, _, _, _, _, _, _, _, _, _, _, _, _, rfl, { hI with p8 := fun _ => rfl }⟩
    · obtain rfl := hI.p3 (hd 3 (by decide))
      obtain rfl := hI.p8 (hd 8 (by decide))
      rw [if_pos (by rfl)]
      go_simp
      exact hK.out _ _ ⟨_, _, _, _, _, _, _, _, _, _, _, _, _, _, _, _, _, _, _, _, _, _, _, _, _, _, _, _, _, _, _, _, _, _, _, _, _, _, _, rfl, { hI with p9 := fun _ => rfl }⟩
    · obtain rfl := hI.p9 (hd 9 (by decide))
      rw [if_pos (by rfl)]
      go_simp
      exact hK.out _ _ ⟨_, _, _, _, _, _, _, _, _, _, _, _, _, _, _, _, _, _, _, _, _, _, _, _, _, _, _, _, _, _, _, _, _, _, _, _, _, _, _, rfl, { hI with p10 := fun _ => rfl }⟩
    · obtain rfl := hI.p10 (hd 10 (by decide))
      refine step_load_part (by rfl) 40 _ rfl gy 0 40 35 CY (RRY.out W hI.x.a.bel) rfl _ CY PY.out LY.out Tryz.underlying40 rfl (by kernel_rfl) ?_
      exact hK.out _ _ ⟨_, _, _, _, _, _, _, _, _, _, _, _, _, _, _, _, _, _, _, _, _, _, _, _, _, _, _, _, _, _, _, _, _, _, _, _, _, _, _, rfl, { hI with p11 := fun _ => rfl }⟩
    · obtain rfl := hI.p11 (hd 11 (by decide))
      obtain rfl := hI.p10 (hd 10 (by decide))
      rw [if_pos (by rfl)]
      go_simp
      refine (BKY.out W hI.x.a.bel).mono ?_
      rintro e W2 ⟨lo9, lc9, rfl, hv9, hb9⟩
      go_simp
      have hX := BS3.mk (hI.x.a.keep hb9) (hI.x.b.s hb9 hv9 (q' := true)) (hI.x.c.keep hb9)
      exact hK.out _ _ ⟨_, _, _, _, _, _, _, _, _, _, _, _, _, _, _, _, _, _, _, _, _, _, _, _, _, _, _, _, _, _, _, _, _, _, _, _, _, _, _, rfl, { hI with x := hX }⟩
    · obtain rfl := hI.p10 (hd 10 (by decide))
      refine step_load_part (by rfl) 28 _ rfl gz 0 28 35 CZ (RRZ.out W hI.x.a.bel) rfl _ CZ PZ.out LZ.out Tryz.underlying28 rfl (by kernel_rfl) ?_
      exact hK.out _ _ ⟨_, _, _, _, _, _, _, _, _, _, _, _, _, _, _, _, _, _, _, _, _, _, _, _, _, _, _, _, _, _, _, _, _, _, _, _, _, _, _, rfl, { hI with p13 := fun _ => rfl }⟩
    · obtain rfl := hI.p13 (hd 13 (by decide))
      obtain rfl := hI.p10 (hd 10 (by decide))
      rw [if_pos (by rfl)]
      go_simp
      obtain ⟨lo9, lc9, e9, hv9⟩ := hI.x.b.p (hd 12 (by decide))
      subst e9
      refine (SMY.out W lo9 lc9 hI.x.a.bel hv9).mono ?_
      rintro e W2 ⟨rfl, hb9⟩
      go_simp
      have hX := BS3.mk (hI.x.a.keep hb9) (hI.x.b.keep hb9) (hI.x.c.keep hb9)
      exact hK.out _ _ ⟨_, _, _, _, _, _, _, _, _, _, _, _, _, _, _, _, _, _, _, _, _, _, _, _, _, _, _, _, _, _, _, _, _, _, _, _, _, _, _, rfl, { hI with x := hX, p14 := fun _ => rfl }⟩
    · obtain rfl := hI.p14 (hd 14 (by decide))
      obtain rfl := hI.p10 (hd 10 (by decide))
      rw [if_pos (by rfl)]
      go_simp
      exact hK.out _ _ ⟨_, _, _, _, _, _, _, _, _, _, _, _, _, _, _, _, _, _, _, _, _, _, _, _, _, _, _, _, _, _, _, _, _, _, _, _, _, _, _, rfl, { hI with p15 := fun _ => rfl }⟩
    · obtain rfl := hI.p10 (hd 10 (by decide))
      obtain rfl := hI.p15 (hd 15 (by decide))
      rw [if_pos (by rfl)]
      go_simp
      exact hK.out _ _ ⟨_, _, _, _, _, _, _, _, _, _, _, _, _, _, _, _, _, _, _, _, _, _, _, _, _, _, _, _, _, _, _, _, _, _, _, _, _, _, _, rfl, { hI with p16 := fun _ => rfl }⟩
    · obtain rfl := hI.p16 (hd 16 (by decide))
      rw [if_pos (by rfl)]
      go_simp
      exact hK.out _ _ ⟨_, _, _, _, _, _, _, _, _, _, _, _, _, _, _, _, _, _, _, _, _, _, _, _, _, _, _, _, _, _, _, _, _, _, _, _, _, _, _, rfl, { hI with p17 := fun _ => rfl }⟩
    · obtain rfl := hI.p17 (hd 17 (by decide))
      refine step_load_part (by rfl) 40 _ rfl g7 0 40 35 CM (RRM.out W hI.x.a.bel) rfl _ CM PM.out LM.out Tryz.underlying40 rfl (by kernel_rfl) ?_
      exact hK.out _ _ ⟨_, _, _, _, _, _, _, _, _, _, _, _, _, _, _, _, _, _, _, _, _, _, _, _, _, _, _, _, _, _, _, _, _, _, _, _, _, _, _, rfl, { hI with p18 := fun _ => rfl }⟩
    · obtain rfl := hI.p18 (hd 18 (by decide))
      obtain rfl := hI.p17 (hd 17 (by decide))
      rw [if_pos (by rfl)]
      go_simp
      refine (BKM.out W hI.x.a.bel).mono ?_
      rintro e W2 ⟨lo9, lc9, rfl, hv9, hb9⟩
      go_simp
      have hX := BS3.mk (hI.x.a.keep hb9) (hI.x.b.keep hb9) (hI.x.c.s hb9 hv9 (q' := true))
      exact hK.out _ _ ⟨_, _, _, _, _, _, _, _, _, _, _, _, _, _, _, _, _, _, _, _, _, _, _, _, _, _, _, _, _, _, _, _, _, _, _, _, _, _, _, rfl, { hI with x := hX }⟩
    · obtain rfl := hI.p17 (hd 17 (by decide))
      refine step_load_part (by rfl) 28 _ rfl g3 0 28 35 CT (RRT.out W hI.x.a.bel) rfl _ CT PT.out LT.out Tryz.underlying28 rfl (by kernel_rfl) ?_
      exact hK.out _ _ ⟨_, _, _, _, _, _, _, _, _, _, _, _, _, _, _, _, _, _, _, _, _, _, _, _, _, _, _, _, _, _, _, _, _, _, _, _, _, _, _, rfl, { hI with p20 := fun _ => rfl }⟩
    · obtain rfl := hI.p20 (hd 20 (by decide))
      obtain rfl := hI.p17 (hd 17 (by decide))
      rw [if_pos (by rfl)]
      go_simp
      obtain ⟨lo9, lc9, e9, hv9⟩ := hI.x.c.p (hd 19 (by decide))
      subst e9
      refine (SMM.out W lo9 lc9 hI.x.a.bel hv9).mono ?_
      rintro e W2 ⟨rfl, hb9⟩
      go_simp
      have hX := BS3.mk (hI.x.a.keep hb9) (hI.x.b.keep hb9) (hI.x.c.keep hb9)
      exact hK.out _ _ ⟨_, _, _, _, _, _, _, _, _, _, _, _, _, _, _, _, _, _, _, _, _, _, _, _, _, _, _, _, _, _, _, _, _, _, _, _, _, _, _, rfl, { hI with x := hX, p21 := fun _ => rfl }⟩
    · obtain rfl := hI.p21 (hd 21 (by decide))
      obtain rfl := hI.p17 (hd 17 (by decide))
      rw [if_pos (by rfl)]
      go_simp
      exact hK.out _ _ ⟨_, _, _, _, _, _, _, _, _, _, _, _, _, _, _, _, _, _, _, _, _, _, _, _, _, _, _, _, _, _, _, _, _, _, _, _, _, _, _, rfl, { hI with p22 := fun _ => rfl }⟩
    · obtain rfl := hI.p17 (hd 17 (by decide))
      obtain rfl := hI.p22 (hd 22 (by decide))
      rw [if_pos (by rfl)]
      go_simp
      exact hK.out _ _ ⟨_, _, _, _, _, _, _, _, _, _, _, _, _, _, _, _, _, _, _, _, _, _, _, _, _, _, _, _, _, _, _, _, _, _, _, _, _, _, _, rfl, { hI with p23 := fun _ => rfl }⟩
    · obtain rfl := hI.p23 (hd 23 (by decide))
      rw [if_pos (by rfl)]
      go_simp
      exact hK.out _ _ ⟨_, _, _, _, _, _, _, _, _, _, _, _, _, _, _, _, _, _, _, _, _, _, _, _, _, _, _, _, _, _, _, _, _, _, _, _, _, _, _, rfl, { hI with p24 := fun _ => rfl }⟩
    · obtain rfl := hI.p24 (hd 24 (by decide))
      rw [if_pos (by rfl)]
      go_simp
      exact hK.out _ _ ⟨_, _, _, _, _, _, _, _, _, _, _, _, _, _, _, _, _, _, _, _, _, _, _, _, _, _, _, _, _, _, _, _, _, _, _, _, _, _, _, rfl, { hI with p25 := fun _ => rfl }⟩
    · obtain rfl := hI.p25 (hd 25 (by decide))
      obtain rfl := hI.p24 (hd 24 (by decide))
      rw [if_pos (by rfl)]
      have hc := C7.out W hI.x.a.bel
      go_simp
      exact hK.out _ _ ⟨_, _, _, _, _, _, _, _, _, _, _, _, _, _, _, _, _, _, _, _, _, _, _, _, _, _, _, _, _, _, _, _, _, _, _, _, _, _, _, rfl, { hI with p26 := fun _ => rfl }⟩
    · obtain rfl := hI.p24 (hd 24 (by decide))
      rw [if_pos (by rfl)]
      go_simp
      exact hK.out _ _ ⟨_, _, _, _, _, _, _, _, _, _, _, _, _, _, _, _, _, _, _, _, _, _, _, _, _, _, _, _, _, _, _, _, _, _, _, _, _, _, _, rfl, { hI with p27 := fun _ => rfl }⟩
    · obtain rfl := hI.p27 (hd 27 (by decide))
      obtain rfl := hI.p24 (hd 24 (by decide))
      rw [if_pos (by rfl)]
      have hc := C3.out W hI.x.a.bel
      go_simp
      exact hK.out _ _ ⟨_, _, _, _, _, _, _, _, _, _, _, _, _, _, _, _, _, _, _, _, _, _, _, _, _, _, _, _, _, _, _, _, _, _, _, _, _, _, _, rfl, { hI with p28 := fun _ => rfl }⟩
    · obtain rfl := hI.p28 (hd 28 (by decide))
      obtain rfl := hI.p24 (hd 24 (by decide))
      rw [if_pos (by rfl)]
      go_simp
      exact hK.out _ _ ⟨_, _, _, _, _, _, _, _, _, _, _, _, _, _, _, _, _, _, _, _, _, _, _, _, _, _, _, _, _, _, _, _, _, _, _, _, _, _, _, rfl, { hI with p29 := fun _ => rfl }⟩
    · obtain rfl := hI.p29 (hd 29 (by decide))
      obtain rfl := hI.p24 (hd 24 (by decide))
      rw [if_pos (by rfl)]
      go_simp
      exact hK.out _ _ ⟨_, _, _, _, _, _, _, _, _, _, _, _, _, _, _, _, _, _, _, _, _, _, _, _, _, _, _, _, _, _, _, _, _, _, _, _, _, _, _, rfl, { hI with p30 := fun _ => rfl }⟩
    · obtain rfl := hI.p26 (hd 26 (by decide))
      obtain rfl := hI.p30 (hd 30 (by decide))
      obtain rfl := hI.p24 (hd 24 (by decide))
      rw [if_pos (by rfl)]
      go_simp
      exact hK.out _ _ ⟨_, _, _, _, _, _, _, _, _, _, _, _, _, _, _, _, _, _, _, _, _, _, _, _, _, _, _, _, _, _, _, _, _, _, _, _, _, _, _, rfl, { hI with p31 := fun _ => rfl }⟩
    · obtain rfl := hI.p24 (hd 24 (by decide))
      rw [if_pos (by rfl)]
      go_simp
      exact hK.out _ _ ⟨_, _, _, _, _, _, _, _, _, _, _, _, _, _, _, _, _, _, _, _, _, _, _, _, _, _, _, _, _, _, _, _, _, _, _, _, _, _, _, rfl, { hI with p32 := fun _ => rfl }⟩
    · obtain rfl := hI.p32 (hd 32 (by decide))
      obtain rfl := hI.p24 (hd 24 (by decide))
      rw [if_pos (by rfl)]
      have hc := C3.out W hI.x.a.bel
      go_simp
      exact hK.out _ _ ⟨_, _, _, _, _, _, _, _, _, _, _, _, _, _, _, _, _, _, _, _, _, _, _, _, _, _, _, _, _, _, _, _, _, _, _, _, _, _, _, rfl, { hI with p33 := fun _ => rfl }⟩
    · obtain rfl := hI.p33 (hd 33 (by decide))
      obtain rfl := hI.p24 (hd 24 (by decide))
      rw [if_pos (by rfl)]
      go_simp
      exact hK.out _ _ ⟨_, _, _, _, _, _, _, _, _, _, _, _, _, _, _, _, _, _, _, _, _, _, _, _, _, _, _, _, _, _, _, _, _, _, _, _, _, _, _, rfl, { hI with p34 := fun _ => rfl }⟩
    · obtain rfl := hI.p31 (hd 31 (by decide))
      obtain rfl := hI.p34 (hd 34 (by decide))
      obtain rfl := hI.p24 (hd 24 (by decide))
      rw [if_pos (by rfl)]
      go_simp
      exact hK.out _ _ ⟨_, _, _, _, _, _, _, _, _, _, _, _, _, _, _, _, _, _, _, _, _, _, _, _, _, _, _, _, _, _, _, _, _, _, _, _, _, _, _, rfl, { hI with p35 := fun _ => rfl }⟩
    · obtain rfl := hI.p35 (hd 35 (by decide))
      obtain rfl := hI.p24 (hd 24 (by decide))
      rw [if_pos (by rfl)]
      have hcv := conv_bytes W (some ⟨G, n, none⟩) 3 (cq - n) mk3 rfl (MC.out W hI.x.a.bel)
      go_simp
      exact hK.out _ _ ⟨_, _, _, _, _, _, _, _, _, _, _, _, _, _, _, _, _, _, _, _, _, _, _, _, _, _, _, _, _, _, _, _, _, _, _, _, _, _, _, rfl, { hI with p36 := fun _ => rfl }⟩
    · obtain rfl := hI.p36 (hd 36 (by decide))
      obtain rfl := hI.p24 (hd 24 (by decide))
      rw [if_pos (by rfl)]
      have hes := ES.out
      go_simp
      exact hK.out _ _ ⟨_, _, _, _, _, _, _, _, _, _, _, _, _, _, _, _, _, _, _, _, _, _, _, _, _, _, _, _, _, _, _, _, _, _, _, _, _, _, _, rfl, { hI with p37 := fun _ => rfl }⟩
    · obtain rfl := hI.p24 (hd 24 (by decide))
      obtain rfl := hI.p37 (hd 37 (by decide))
      rw [if_pos (by rfl)]
      go_simp
      exact hK.out _ _ ⟨_, _, _, _, _, _, _, _, _, _, _, _, _, _, _, _, _, _, _, _, _, _, _, _, _, _, _, _, _, _, _, _, _, _, _, _, _, _, _, rfl, { hI with p38 := fun _ => rfl }⟩
  · rintro L _ W hall ⟨x64, x65, x66, x67, x68, x69, x70, x71, x72, x73, x74, x75, x76, x77, x78, x79, x80, x81, x82, x83, x84, x85, x86, x87, x88, x89, x90, x91, x92, x93, x94, x95, x96, x97, x98, x99, x100, x101, x102, rfl, hI⟩
    obtain rfl := hI.p0 (hall 0 (by decide))
    obtain rfl := hI.p1 (hall 1 (by decide))
    obtain rfl := hI.p2 (hall 2 (by decide))
    obtain rfl := hI.p3 (hall 3 (by decide))
    obtain rfl := hI.p4 (hall 4 (by decide))
    obtain rfl := hI.p6 (hall 6 (by decide))
    obtain rfl := hI.p7 (hall 7 (by decide))
    obtain rfl := hI.p8 (hall 8 (by decide))
    obtain rfl := hI.p9 (hall 9 (by decide))
    obtain rfl := hI.p10 (hall 10 (by decide))
    obtain rfl := hI.p11 (hall 11 (by decide))
    obtain rfl := hI.p13 (hall 13 (by decide))
    obtain rfl := hI.p14 (hall 14 (by decide))
    obtain rfl := hI.p15 (hall 15 (by decide))
    obtain rfl := hI.p16 (hall 16 (by decide))
    obtain rfl := hI.p17 (hall 17 (by decide))
    obtain rfl := hI.p18 (hall 18 (by decide))
    obtain rfl := hI.p20 (hall 20 (by decide))
    obtain rfl := hI.p21 (hall 21 (by decide))
    obtain rfl := hI.p22 (hall 22 (by decide))
    obtain rfl := hI.p23 (hall 23 (by decide))
    obtain rfl := hI.p24 (hall 24 (by decide))
    obtain rfl := hI.p25 (hall 25 (by decide))
    obtain rfl := hI.p26 (hall 26 (by decide))
    obtain rfl := hI.p27 (hall 27 (by decide))
    obtain rfl := hI.p28 (hall 28 (by decide))
    obtain rfl := hI.p29 (hall 29 (by decide))
    obtain rfl := hI.p30 (hall 30 (by decide))
    obtain rfl := hI.p31 (hall 31 (by decide))
    obtain rfl := hI.p32 (hall 32 (by decide))
    obtain rfl := hI.p33 (hall 33 (by decide))
    obtain rfl := hI.p34 (hall 34 (by decide))
    obtain rfl := hI.p35 (hall 35 (by decide))
    obtain rfl := hI.p36 (hall 36 (by decide))
    obtain rfl := hI.p37 (hall 37 (by decide))
    obtain rfl := hI.p38 (hall 38 (by decide))
    have hXe := hI.x
    rw [hall 5 (by decide)] at hXe
    rw [hall 12 (by decide)] at hXe
    rw [hall 19 (by decide)] at hXe
    clear hI hall
    try dsimp only
    have HB2 : Hid (Below W1.heap.size W1 W) := hXe.a.bel
    clear hXe
    go_wp2
    refine HK.out _ _ ?_
    exact NXT.out _ _ _ _ _ _ _ _ _ _ _ _ _ _ _ _ _ _ _ _ _ _ _ _ _ _ _ _ _ _ _ _ _ _ _ _ _ _ _ _ _ _ _ _ _ _ _ _ _ _ _ _ _ _ _ _ _ _ _ _ _ _ _ _ _ _ _ _ _ _ _ _ _ _ _ _ _ _ _ _ _ _ _ _ _ _ _ _ _ _ _ _ _ _ _ _ _ _ _ _ _ _ _ _ _ _ _ _ _ _ _ _ _ _ _ _ _ _ _ _ _ _ _ _ _ _ _ _ _ _ _ _ _ _ _ _ _ _ _ _ _ _ _ _ _ _ _ _ _ _ _ _ _ _ _ _ _ _ _ _ _ _ _ _ _ _ _ _ _ _ _ _ _ _ _ _ _ _ _ _ _ _ _ _ _ _ _ _ _ _ _ _ _ _ _ _ _ _ _ _ _ _ _ _ _ _ _ _ _ _ _ _ _ _ _ _ _ _ _ _ _ _ _ _ _ _ _ _ _ _ _ _ _ _ _ _ _ _ _ _ _ _ _ _ _ _ _ _ _ _ _ _ _ _ _ _ _ _ _ _ _ _ _ _ _ _ _ _ _ _ _ _ _ _ _ _ _ _ _ _ _ _ _ _ _ _ _ _ _ _ _ _ _ _ _ _ _ _ _ _ _ _ _ _ _ _ _ _ _ _ _ _ _ _ _ _ _ _ _ _ _ _ _ _ _ _ _ _ _ _ _ _ _ _ _ _ _ W HB2.out
end Go.Proofs.YtjooabgjkjnhhaaGreatDoor
