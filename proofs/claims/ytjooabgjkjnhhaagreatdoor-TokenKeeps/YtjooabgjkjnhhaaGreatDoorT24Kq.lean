
import Derived.Test.YtjooabgjkjnhhaaGreatDoorT24Kp
/-! TokenKeeps, whole. (Printed by tools/gent24c.py.) -/
namespace Go.Proofs.YtjooabgjkjnhhaaGreatDoor
open Go.RowKit
set_option linter.unusedVariables false
set_option linter.unusedSimpArgs false
set_option maxRecDepth 100000

structure KP7 (W1 : World) (y : Tk) (Ev : Int) (X CC : List Value) (L : Nat → Bool) (x43 x44 x45 x46 x42 x47 x48 x9 x10 : Value) (W : World) : Prop where
  x : IQ W1 y Ev (L 3) (L 4) (L 5) (L 7) (L 8) x46 x42 x47 x9 W
  p0 : L 0 = true → x43 = .agg X.toArray
  p1 : L 1 = true → x44 = .agg CC.toArray
  p2 : L 2 = true → x45 = .agg CC.toArray
  p6 : L 6 = true → x48 = .int .i64 Ev
  p9 : L 9 = true → x10 = .int .i64 Ev
section
variable {W1 : World} {y : Tk} {Ev : Int} {X CC : List Value} {L : Nat → Bool} {x43 x44 x45 x46 x42 x47 x48 x9 x10 : Value} {W W2 : World}
theorem KP7.s0 (h : KP7 W1 y Ev X CC L x43 x44 x45 x46 x42 x47 x48 x9 x10 W) : KP7 W1 y Ev X CC (upd L 0) (.agg X.toArray) x44 x45 x46 x42 x47 x48 x9 x10 W :=
  ⟨h.x, fun _ => rfl, h.p1, h.p2, h.p6, h.p9⟩
theorem KP7.s1 (h : KP7 W1 y Ev X CC L x43 x44 x45 x46 x42 x47 x48 x9 x10 W) : KP7 W1 y Ev X CC (upd L 1) x43 (.agg CC.toArray) x45 x46 x42 x47 x48 x9 x10 W :=
  ⟨h.x, h.p0, fun _ => rfl, h.p2, h.p6, h.p9⟩
theorem KP7.s6 (h : KP7 W1 y Ev X CC L x43 x44 x45 x46 x42 x47 x48 x9 x10 W) : KP7 W1 y Ev X CC (upd L 6) x43 x44 x45 x46 x42 x47 (.int .i64 Ev) x9 x10 W :=
  ⟨h.x, h.p0, h.p1, h.p2, fun _ => rfl, h.p9⟩
theorem KP7.s7 (h : KP7 W1 y Ev X CC L x43 x44 x45 x46 x42 x47 x48 x9 x10 W) {v : Value} (hX : IQ W1 y Ev ((upd L 7) 3) ((upd L 7) 4) ((upd L 7) 5) ((upd L 7) 7) ((upd L 7) 8) x46 x42 x47 v W2) : KP7 W1 y Ev X CC (upd L 7) x43 x44 x45 x46 x42 x47 x48 v x10 W2 :=
  ⟨hX, h.p0, h.p1, h.p2, h.p6, h.p9⟩
theorem KP7.s8 (h : KP7 W1 y Ev X CC L x43 x44 x45 x46 x42 x47 x48 x9 x10 W) (hX : IQ W1 y Ev ((upd L 8) 3) ((upd L 8) 4) ((upd L 8) 5) ((upd L 8) 7) ((upd L 8) 8) x46 x42 x47 x9 W2) : KP7 W1 y Ev X CC (upd L 8) x43 x44 x45 x46 x42 x47 x48 x9 x10 W2 :=
  ⟨hX, h.p0, h.p1, h.p2, h.p6, h.p9⟩
end
@[reducible] def IKP7 (W1 : World) (y : Tk) (Ev : Int) (X CC : List Value) (y0 y1 y2 y3 y4 y5 y6 y7 y8 y11 y12 y13 y14 y15 y16 y17 y18 y19 y20 y21 y22 y23 y24 y25 y26 y27 y28 y29 y30 y31 y32 y33 y34 y35 y36 y37 y38 y39 y40 y41 y49 y50 y51 y52 y53 y54 y55 y56 y57 y58 y59 y60 y61 y62 y63 y64 y65 y66 y67 y68 y69 y70 y71 y72 y73 y74 y75 y76 y77 y78 y79 y80 y81 y82 y83 y84 y85 y86 y87 y88 y89 y90 y91 y92 y93 y94 y95 y96 y97 y98 y99 y100 y101 y102 y103 y104 y105 y106 y107 y108 y109 y110 y111 y112 y113 y114 y115 y116 y117 y118 y119 y120 y121 y122 y123 y124 y125 y126 y127 y128 y129 y130 y131 y132 y133 y134 y135 y136 y137 y138 y139 y140 y141 y142 y143 y144 y145 y146 y147 y148 y149 y150 y151 y152 y153 y154 y155 y156 y157 y158 y159 y160 y161 y162 y163 y164 y165 y166 y167 y168 y169 y170 y171 y172 y173 y174 y175 y176 y177 y178 y179 y180 y181 y182 y183 y184 y185 y186 y187 y188 y189 y190 y191 y192 y193 y194 y195 y196 y197 y198 y199 y200 y201 y202 y203 y204 y205 y206 y207 y208 y209 y210 y211 y212 y213 y214 y215 y216 y217 y218 y219 y220 y221 y222 y223 y224 y225 y226 y227 y228 y229 y230 y231 y232 y233 y234 y235 y236 y237 y238 y239 y240 y241 y242 y243 y244 y245 y246 y247 y248 y249 y250 y251 y252 y253 y254 y255 y256 y257 y258 y259 y260 y261 y262 y263 y264 y265 y266 y267 y268 y269 y270 y271 y272 y273 y274 y275 y276 y277 y278 y279 y280 y281 y282 y283 y284 y285 y286 y287 y288 y289 y290 y291 y292 y293 y294 y295 y296 y297 y298 y299 y300 y301 y302 y303 y304 y305 y306 y307 y308 y309 y310 y311 y312 y313 y314 y315 y316 y317 y318 y319 y320 y321 y322 y323 y324 y325 y326 y327 y328 y329 y330 y331 y332 y333 y334 y335 y336 y337 y338 y339 y340 y341 y342 y343 : Value) : (Nat → Bool) → Act → World → Prop := fun L a W => ∃ x43 x44 x45 x46 x42 x47 x48 x9 x10, a = ⟨#[y0, y1, y2, y3, y4, y5, y6, y7, y8, x9, x10, y11, y12, y13, y14, y15, y16, y17, y18, y19, y20, y21, y22, y23, y24, y25, y26, y27, y28, y29, y30, y31, y32, y33, y34, y35, y36, y37, y38, y39, y40, y41, x42, x43, x44, x45, x46, x47, x48, y49, y50, y51, y52, y53, y54, y55, y56, y57, y58, y59, y60, y61, y62, y63, y64, y65, y66, y67, y68, y69, y70, y71, y72, y73, y74, y75, y76, y77, y78, y79, y80, y81, y82, y83, y84, y85, y86, y87, y88, y89, y90, y91, y92, y93, y94, y95, y96, y97, y98, y99, y100, y101, y102, y103, y104, y105, y106, y107, y108, y109, y110, y111, y112, y113, y114, y115, y116, y117, y118, y119, y120, y121, y122, y123, y124, y125, y126, y127, y128, y129, y130, y131, y132, y133, y134, y135, y136, y137, y138, y139, y140, y141, y142, y143, y144, y145, y146, y147, y148, y149, y150, y151, y152, y153, y154, y155, y156, y157, y158, y159, y160, y161, y162, y163, y164, y165, y166, y167, y168, y169, y170, y171, y172, y173, y174, y175, y176, y177, y178, y179, y180, y181, y182, y183, y184, y185, y186, y187, y188, y189, y190, y191, y192, y193, y194, y195, y196, y197, y198, y199, y200, y201, y202, y203, y204, y205, y206, y207, y208, y209, y210, y211, y212, y213, y214, y215, y216, y217, y218, y219, y220, y221, y222, y223, y224, y225, y226, y227, y228, y229, y230, y231, y232, y233, y234, y235, y236, y237, y238, y239, y240, y241, y242, y243, y244, y245, y246, y247, y248, y249, y250, y251, y252, y253, y254, y255, y256, y257, y258, y259, y260, y261, y262, y263, y264, y265, y266, y267, y268, y269, y270, y271, y272, y273, y274, y275, y276, y277, y278, y279, y280, y281, y282, y283, y284, y285, y286, y287, y288, y289, y290, y291, y292, y293, y294, y295, y296, y297, y298, y299, y300, y301, y302, y303, y304, y305, y306, y307, y308, y309, y310, y311, y312, y313, y314, y315, y316, y317, y318, y319, y320, y321, y322, y323, y324, y325, y326, y327, y328, y329, y330, y331, y332, y333, y334, y335, y336, y337, y338, y339, y340, y341, y342, y343], []⟩ ∧ KP7 W1 y Ev X CC L x43 x44 x45 x46 x42 x47 x48 x9 x10 W
structure KP8 (W1 : World) (y : Tk) (Ev : Int) (X CC : List Value) (L : Nat → Bool) (x50 x51 x52 x53 x49 x54 x55 x11 x12 : Value) (W : World) : Prop where
  x : IQ W1 y Ev (L 3) (L 4) (L 5) (L 7) (L 8) x53 x49 x54 x11 W
  p0 : L 0 = true → x50 = .agg X.toArray
  p1 : L 1 = true → x51 = .agg CC.toArray
  p2 : L 2 = true → x52 = .agg CC.toArray
  p6 : L 6 = true → x55 = .int .i64 Ev
  p9 : L 9 = true → x12 = .int .i64 Ev
section
variable {W1 : World} {y : Tk} {Ev : Int} {X CC : List Value} {L : Nat → Bool} {x50 x51 x52 x53 x49 x54 x55 x11 x12 : Value} {W W2 : World}
theorem KP8.s0 (h : KP8 W1 y Ev X CC L x50 x51 x52 x53 x49 x54 x55 x11 x12 W) : KP8 W1 y Ev X CC (upd L 0) (.agg X.toArray) x51 x52 x53 x49 x54 x55 x11 x12 W :=
  ⟨h.x, fun _ => rfl, h.p1, h.p2, h.p6, h.p9⟩
theorem KP8.s1 (h : KP8 W1 y Ev X CC L x50 x51 x52 x53 x49 x54 x55 x11 x12 W) : KP8 W1 y Ev X CC (upd L 1) x50 (.agg CC.toArray) x52 x53 x49 x54 x55 x11 x12 W :=
  ⟨h.x, h.p0, fun _ => rfl, h.p2, h.p6, h.p9⟩
theorem KP8.s6 (h : KP8 W1 y Ev X CC L x50 x51 x52 x53 x49 x54 x55 x11 x12 W) : KP8 W1 y Ev X CC (upd L 6) x50 x51 x52 x53 x49 x54 (.int .i64 Ev) x11 x12 W :=
  ⟨h.x, h.p0, h.p1, h.p2, fun _ => rfl, h.p9⟩
theorem KP8.s7 (h : KP8 W1 y Ev X CC L x50 x51 x52 x53 x49 x54 x55 x11 x12 W) {v : Value} (hX : IQ W1 y Ev ((upd L 7) 3) ((upd L 7) 4) ((upd L 7) 5) ((upd L 7) 7) ((upd L 7) 8) x53 x49 x54 v W2) : KP8 W1 y Ev X CC (upd L 7) x50 x51 x52 x53 x49 x54 x55 v x12 W2 :=
  ⟨hX, h.p0, h.p1, h.p2, h.p6, h.p9⟩
theorem KP8.s8 (h : KP8 W1 y Ev X CC L x50 x51 x52 x53 x49 x54 x55 x11 x12 W) (hX : IQ W1 y Ev ((upd L 8) 3) ((upd L 8) 4) ((upd L 8) 5) ((upd L 8) 7) ((upd L 8) 8) x53 x49 x54 x11 W2) : KP8 W1 y Ev X CC (upd L 8) x50 x51 x52 x53 x49 x54 x55 x11 x12 W2 :=
  ⟨hX, h.p0, h.p1, h.p2, h.p6, h.p9⟩
end
@[reducible] def IKP8 (W1 : World) (y : Tk) (Ev : Int) (X CC : List Value) (y0 y1 y2 y3 y4 y5 y6 y7 y8 y9 y10 y13 y14 y15 y16 y17 y18 y19 y20 y21 y22 y23 y24 y25 y26 y27 y28 y29 y30 y31 y32 y33 y34 y35 y36 y37 y38 y39 y40 y41 y42 y43 y44 y45 y46 y47 y48 y56 y57 y58 y59 y60 y61 y62 y63 y64 y65 y66 y67 y68 y69 y70 y71 y72 y73 y74 y75 y76 y77 y78 y79 y80 y81 y82 y83 y84 y85 y86 y87 y88 y89 y90 y91 y92 y93 y94 y95 y96 y97 y98 y99 y100 y101 y102 y103 y104 y105 y106 y107 y108 y109 y110 y111 y112 y113 y114 y115 y116 y117 y118 y119 y120 y121 y122 y123 y124 y125 y126 y127 y128 y129 y130 y131 y132 y133 y134 y135 y136 y137 y138 y139 y140 y141 y142 y143 y144 y145 y146 y147 y148 y149 y150 y151 y152 y153 y154 y155 y156 y157 y158 y159 y160 y161 y162 y163 y164 y165 y166 y167 y168 y169 y170 y171 y172 y173 y174 y175 y176 y177 y178 y179 y180 y181 y182 y183 y184 y185 y186 y187 y188 y189 y190 y191 y192 y193 y194 y195 y196 y197 y198 y199 y200 y201 y202 y203 y204 y205 y206 y207 y208 y209 y210 y211 y212 y213 y214 y215 y216 y217 y218 y219 y220 y221 y222 y223 y224 y225 y226 y227 y228 y229 y230 y231 y232 y233 y234 y235 y236 y237 y238 y239 y240 y241 y242 y243 y244 y245 y246 y247 y248 y249 y250 y251 y252 y253 y254 y255 y256 y257 y258 y259 y260 y261 y262 y263 y264 y265 y266 y267 y268 y269 y270 y271 y272 y273 y274 y275 y276 y277 y278 y279 y280 y281 y282 y283 y284 y285 y286 y287 y288 y289 y290 y291 y292 y293 y294 y295 y296 y297 y298 y299 y300 y301 y302 y303 y304 y305 y306 y307 y308 y309 y310 y311 y312 y313 y314 y315 y316 y317 y318 y319 y320 y321 y322 y323 y324 y325 y326 y327 y328 y329 y330 y331 y332 y333 y334 y335 y336 y337 y338 y339 y340 y341 y342 y343 : Value) : (Nat → Bool) → Act → World → Prop := fun L a W => ∃ x50 x51 x52 x53 x49 x54 x55 x11 x12, a = ⟨#[y0, y1, y2, y3, y4, y5, y6, y7, y8, y9, y10, x11, x12, y13, y14, y15, y16, y17, y18, y19, y20, y21, y22, y23, y24, y25, y26, y27, y28, y29, y30, y31, y32, y33, y34, y35, y36, y37, y38, y39, y40, y41, y42, y43, y44, y45, y46, y47, y48, x49, x50, x51, x52, x53, x54, x55, y56, y57, y58, y59, y60, y61, y62, y63, y64, y65, y66, y67, y68, y69, y70, y71, y72, y73, y74, y75, y76, y77, y78, y79, y80, y81, y82, y83, y84, y85, y86, y87, y88, y89, y90, y91, y92, y93, y94, y95, y96, y97, y98, y99, y100, y101, y102, y103, y104, y105, y106, y107, y108, y109, y110, y111, y112, y113, y114, y115, y116, y117, y118, y119, y120, y121, y122, y123, y124, y125, y126, y127, y128, y129, y130, y131, y132, y133, y134, y135, y136, y137, y138, y139, y140, y141, y142, y143, y144, y145, y146, y147, y148, y149, y150, y151, y152, y153, y154, y155, y156, y157, y158, y159, y160, y161, y162, y163, y164, y165, y166, y167, y168, y169, y170, y171, y172, y173, y174, y175, y176, y177, y178, y179, y180, y181, y182, y183, y184, y185, y186, y187, y188, y189, y190, y191, y192, y193, y194, y195, y196, y197, y198, y199, y200, y201, y202, y203, y204, y205, y206, y207, y208, y209, y210, y211, y212, y213, y214, y215, y216, y217, y218, y219, y220, y221, y222, y223, y224, y225, y226, y227, y228, y229, y230, y231, y232, y233, y234, y235, y236, y237, y238, y239, y240, y241, y242, y243, y244, y245, y246, y247, y248, y249, y250, y251, y252, y253, y254, y255, y256, y257, y258, y259, y260, y261, y262, y263, y264, y265, y266, y267, y268, y269, y270, y271, y272, y273, y274, y275, y276, y277, y278, y279, y280, y281, y282, y283, y284, y285, y286, y287, y288, y289, y290, y291, y292, y293, y294, y295, y296, y297, y298, y299, y300, y301, y302, y303, y304, y305, y306, y307, y308, y309, y310, y311, y312, y313, y314, y315, y316, y317, y318, y319, y320, y321, y322, y323, y324, y325, y326, y327, y328, y329, y330, y331, y332, y333, y334, y335, y336, y337, y338, y339, y340, y341, y342, y343], []⟩ ∧ KP8 W1 y Ev X CC L x50 x51 x52 x53 x49 x54 x55 x11 x12 W
set_option maxHeartbeats 8000000 in
theorem keeps24_any (C : Tok) (w : World) (hg : HG w) (t : Tk) (it : Option Addr) (ict : Nat) (lt : Option Addr) (lct : Nat) (hv : TkV w t it ict lt lct) (c : Cv) (hok : c.ok) (bo : Option Addr) (cap : Nat) (b : List By) (hb : IsB w bo b) (hbc : b.length ≤ cap) (hbn : bo = none → cap = 0) (hbl : b.length ≤ 140737488351232) :
    Calls Tryz.prog 5 #[.agg (tkCells t it ict lt lct).toArray, .agg (cvC c).toArray, .slice bo b.length cap] w (OkP w) := by
  obtain ⟨T, hT⟩ : ∃ T, T = tkCells t it ict lt lct := ⟨_, rfl⟩
  obtain ⟨CC, hCC⟩ : ∃ CC, CC = cvC c := ⟨_, rfl⟩
  have LT : Hid (T.length = 35) := by rw [hT]; exact tkC_len hv.tag
  have LC5 : Hid (CC.length = 5) := by rw [hCC]; exact rfl
  have CW : Hid ((CC.drop 0).take 5 = CC) := by show _ = _; rw [List.drop_zero, List.take_of_length_le (by rw [LC5.out]; exact Nat.le_refl _)]
  obtain ⟨W1, hW1⟩ : ∃ W1, W1 = (w.alloc (.cells T.toArray 28)).alloc (.cells CC.toArray 50) := ⟨_, rfl⟩
  have r1 : Row W1 w.heap.size 28 T := by rw [hW1]; exact (Row.at w _ _ _ _ rfl rfl).alloc _
  have r4 : Row W1 (w.heap.size + 1) 50 CC := by rw [hW1]; exact Row.at _ _ _ _ _ (by simp) rfl
  have b1 : Below w.heap.size w W1 := by rw [hW1]; exact ((Below.refl _ _).alloc (Nat.le_refl _) _).alloc (by simp) _
  have AW := awake24_any C W1 (hg.below b1 hg.lt)
  have HB1 : Hid (Below w.heap.size w W1) := b1
  have RT : Hid (∀ W, Below W1.heap.size W1 W → Row W w.heap.size 28 T) := fun W h => r1.below h r1.lt
  have RC : Hid (∀ W, Below W1.heap.size W1 W → Row W (w.heap.size + 1) 50 CC) := fun W h => r4.below h r4.lt
  have VT : Hid (∀ W, Below W1.heap.size W1 W → TkV W t it ict lt lct) := fun W h => (hv.keep b1).keep h
  have VB : Hid (∀ W, Below W1.heap.size W1 W → IsB W bo b) := fun W h => hb.below (b1.trans (h.mono b1.size)) (Nat.le_refl _)
  have HBB : Hid (b.length ≤ cap ∧ (bo = none → cap = 0) ∧ b.length ≤ 140737488351232) := ⟨hbc, hbn, hbl⟩
  have HC : Hid Tok := C
  have HT : Hid (tkCells t it ict lt lct = T) := hT.symm
  have HCC : Hid (CC = cvC c ∧ c.ok) := ⟨hCC, hok⟩
  have HV : Hid (TkV w t it ict lt lct) := hv
  rw [← hT, ← hCC]
  clear hT hCC r1 r4 b1 hv C hg hb hbc hbn hbl hok
  go_enter Tryz.func5, Tryz.ntmps5
  refine wp_seq_k fun K hK => ?_
  have HK : Hid _ := hK
  clear hK
  go_wp2
  refine HK.out _ _ ?_
  clear HK
  refine wp_at24 hW1 ?_
  clear hW1
  refine wp_seq_k fun K hK => ?_
  have HK : Hid _ := hK
  clear hK
  go_wp2_with fail
  refine AW.mono ?_
  clear AW
  rintro e w2 ⟨rfl, hb2⟩
  dsimp only
  have HB2 : Hid (Below W1.heap.size W1 w2) := hb2
  have R2 := RT.out w2 hb2
  have FW : Calls Tryz.prog 7 #[.agg T.toArray] w2 fun e w' => e = .returned (.bool (decide (t.cs.length ≤ 65536))) ∧ Below w2.heap.size w2 w' := by rw [← HT.out]; exact r24Few_any t it ict lt lct w2
  clear hb2
  go_wp2
  refine HK.out _ _ ?_
  clear HK
  refine wp_seq_k fun K hK => ?_
  have HK : Hid _ := hK
  clear hK
  by_cases hf : t.cs.length ≤ 65536
  · rw [decide_eq_true hf] at FW
    have HFW : Hid (t.cs.length ≤ 65536) := hf
    clear hf
    go_wp2_with (first
      | (have hz := R2; clear hz; refine wpList_load_Row rfl 28 (.tmp 3) rfl w.heap.size 28 T R2 rfl _ Tryz.underlying28 rfl (by rw [LT.out]; kernel_rfl) ?_; clear R2))
    refine FW.mono ?_
    clear FW
    rintro e w3 ⟨rfl, hb3⟩
    dsimp only
    have HB3 : Hid (Below W1.heap.size W1 w3) := HB2.out.trans (hb3.mono HB2.out.size)
    have R3 := RT.out w3 HB3.out
    have OF : Calls Tryz.prog 14 #[.agg T.toArray] w3 (OfP t w3) := by rw [← HT.out]; exact l24of_any t it ict lt lct w3 (VT.out w3 HB3.out) HFW.out
    clear hb3 HB2
    go_wp2
    refine HK.out _ _ ?_
    clear HK
    refine wp_seq_k fun K hK => ?_
    have HK : Hid _ := hK
    clear hK
    go_wp2_with (first
      | (have hz := R3; clear hz; refine wpList_load_Row rfl 28 (.tmp 3) rfl w.heap.size 28 T R3 rfl _ Tryz.underlying28 rfl (by rw [LT.out]; kernel_rfl) ?_; clear R3))
    refine OF.mono ?_
    clear OF
    rintro e w4 ⟨G, cq, H, rfl, ho4, hr4, hH, hb4⟩
    dsimp only
    have HB4 : Hid (Below W1.heap.size W1 w4) := HB3.out.trans (hb4.mono HB3.out.size)
    have TG : Hid (t.tag.length = 32) := HV.out.tag
    have HCQ : Hid (t.id.length + 3 ≤ cq) := own_cap ho4
    have HS5 : Hid (∀ w5, Row w5 w4.heap.size 40 (zTk.take 0 ++ tkCells t (some ⟨G, 0, none⟩) cq (some ⟨H, 0, none⟩) (t.cs.length + 2) ++ zTk.drop (0 + (tkCells t (some ⟨G, 0, none⟩) cq (some ⟨H, 0, none⟩) (t.cs.length + 2)).length)) → SameBut w4.heap.size (w4.alloc (.cells zTk.toArray 40)) w5 → ∀ W, Below w5.heap.size w5 W → Below W1.heap.size W1 W ∧ Row W w4.heap.size 40 (tkCells t (some ⟨G, 0, none⟩) cq (some ⟨H, 0, none⟩) (t.cs.length + 2)) ∧ TkV W t (some ⟨G, 0, none⟩) cq (some ⟨H, 0, none⟩) (t.cs.length + 2) ∧ IsB W (some ⟨G, 0, none⟩) (t.id ++ mk3) ∧ Row W H 52 (t.cs.flatMap cvC ++ (zCv ++ zCv))) := fun w5 hr hs W hW => by
      have hb5 : Below w4.heap.size w4 w5 := hs.below ((Below.refl _ _).alloc (Nat.le_refl _) _) (Nat.le_refl _)
      have hbW : Below w4.heap.size w4 W := hb5.trans (hW.mono hb5.size)
      have q5 := row_whole hr (by rw [tkCells_len TG.out]; exact Nat.le_refl _)
      exact ⟨HB4.out.trans (hbW.mono HB4.out.size), q5.below hW q5.lt, (of_tkv HV.out ho4 hr4).keep hbW, (own_IsB ho4).below hbW (Nat.le_refl _), hr4.below hbW hr4.lt⟩
    clear ho4 hr4 hH hb4 HB3
    go_wp2_with (first
      | (have hz := HS5; clear hz; refine wpList_store_Row rfl 40 (.tmp 7) (.tmp 40) rfl w4.heap.size 40 0 zTk (tkCells t (some ⟨G, 0, none⟩) cq (some ⟨H, 0, none⟩) (t.cs.length + 2)) (zRow w4) (by rw [tkCells_len TG.out]; exact Nat.le_refl _) rfl rfl (by rw [tkCells_len TG.out]; kernel_rfl) (tkCells_one _ _ _ _ _) ?_; intro w5 hr hs; have HM5 : Hid _ := HS5.out w5 hr hs; clear HS5 hr hs))
    refine HK.out _ _ ?_
    clear HK
    generalize w4.heap.size = g7 at *
    refine wp_seq_k fun K hK => ?_
    have HK : Hid _ := hK
    clear hK
    go_wp2
    refine HK.out _ _ ?_
    clear HK
    obtain ⟨W6, hW6⟩ : ∃ W6, W6 = w5.alloc (.cells #[] 40) := ⟨_, rfl⟩
    refine wp_at24 hW6 ?_
    have HB6 : Hid (Below w5.heap.size w5 W6) := by rw [hW6]; exact (Below.refl _ _).alloc (Nat.le_refl _) _
    have HD6 : Hid (W6.ownsRow w5.heap.size 40 35 (.slice (some ⟨w5.heap.size, 0, none⟩) 0 0) 0 []) := by rw [hW6]; exact ⟨rfl, .inr ⟨w5.heap.size, 0, #[], rfl, Nat.le_refl _, heap_alloc_new w5 _, Nat.le_refl _, by unfold maxLen; omega, rfl, rfl⟩⟩
    clear hW6
    obtain ⟨y, hy⟩ : ∃ y, y = nrT t c := ⟨_, rfl⟩
    obtain ⟨Ev, hEv⟩ : ∃ Ev, Ev = nrE t c := ⟨_, rfl⟩
    have HY32 : Hid (y.tag.length = 32) := by rw [hy]; exact nrT_tag t c
    have HYL : Hid (y.cs.length ≤ 100000) := by rw [hy]; show _ ≤ _; have := nrT_len t c; have := HFW.out; omega
    have B56 : Hid (∀ W, Below W6.heap.size W6 W → Below w5.heap.size w5 W) := fun W h => HB6.out.trans (h.mono HB6.out.size)
    obtain ⟨X, hX0⟩ : ∃ X, X = tkCells t (some ⟨G, 0, none⟩) cq (some ⟨H, 0, none⟩) (t.cs.length + 2) := ⟨_, rfl⟩
    have LX : Hid (X.length = 35) := by rw [hX0]; exact tkC_len TG.out
    have XP : Hid ((X.drop 0).take 35 = X) := by show _ = _; rw [List.drop_zero, List.take_of_length_le (by rw [LX.out]; exact Nat.le_refl _)]
    have NRC : Hid (∀ W, Below W6.heap.size W6 W → Calls Tryz.prog 15 #[.agg X.toArray, .agg CC.toArray] W fun e w' => Below W.heap.size W w' ∧ TkA y (.int .i64 Ev) W e w') := fun W h => by rw [hy, hEv, HCC.out.1, hX0]; exact cnar_any HC.out t c _ cq _ _ W (HM5.out W (B56.out W h)).2.2.1 (by have := HFW.out; omega) HCC.out.2
    have RNC : Hid (∀ W, Below W6.heap.size W6 W → Calls Tryz.prog 17 #[.agg T.toArray, .agg CC.toArray] W fun e w' => Below W.heap.size W w' ∧ TkD y (.int .i64 Ev) W e w') := fun W h => by rw [hy, hEv, HCC.out.1, ← HT.out]; exact rnar_any t c it ict lt lct W (VT.out W (HM5.out W (B56.out W h)).1) HCC.out.2
    have PUT : Hid (∀ W, Below W6.heap.size W6 W → Calls Tryz.prog 22 #[.agg X.toArray] W (PutP t W)) := fun W h => by rw [hX0]; exact HC.out.put t _ cq _ _ W (HM5.out W (B56.out W h)).2.2.1 (by have := HFW.out; omega)
    have CVC : Hid (∀ W, Calls Tryz.prog 16 #[.agg CC.toArray] W fun e w' => e = .returned (.agg CC.toArray) ∧ Below W.heap.size W w') := fun W => by rw [HCC.out.1]; exact l24caveat_any c W
    have RX : Hid (∀ W, Below W6.heap.size W6 W → Row W g7 40 X) := fun W h => by rw [hX0]; exact (HM5.out W (B56.out W h)).2.1
    have RCC : Hid (∀ W, Below W6.heap.size W6 W → Row W (w.heap.size + 1) 50 CC) := fun W h => RC.out W (HM5.out W (B56.out W h)).1
    have HX0 : Hid (X = tkCells t (some ⟨G, 0, none⟩) cq (some ⟨H, 0, none⟩) (t.cs.length + 2)) := hX0
    clear hy hEv hX0
    refine wp_seq_k fun K hK => ?_
    have HK : Hid _ := hK
    clear hK
    go_upto_region 7 with fail
    refine wp_region_inv (IKP7 W6 y Ev X CC _ _ _ _ _ _ _ _ _ _ _ _ _ _ _ _ _ _ _ _ _ _ _ _ _ _ _ _ _ _ _ _ _ _ _ _ _ _ _ _ _ _ _ _ _ _ _ _ _ _ _ _ _ _ _ _ _ _ _ _ _ _ _ _ _ _ _ _ _ _ _ _ _ _ _ _ _ _ _ _ _ _ _ _ _ _ _ _ _ _ _ _ _ _ _ _ _ _ _ _ _ _ _ _ _ _ _ _ _ _ _ _ _ _ _ _ _ _ _ _ _ _ _ _ _ _ _ _ _ _ _ _ _ _ _ _ _ _ _ _ _ _ _ _ _ _ _ _ _ _ _ _ _ _ _ _ _ _ _ _ _ _ _ _ _ _ _ _ _ _ _ _ _ _ _ _ _ _ _ _ _ _ _ _ _ _ _ _ _ _ _ _ _ _ _ _ _ _ _ _ _ _ _ _ _ _ _ _ _ _ _ _ _ _ _ _ _ _ _ _ _ _ _ _ _ _ _ _ _ _ _ _ _ _ _ _ _ _ _ _ _ _ _ _ _ _ _ _ _ _ _ _ _ _ _ _ _ _ _ _ _ _ _ _ _ _ _ _ _ _ _ _ _ _ _ _ _ _ _ _ _ _ _ _ _ _ _ _ _ _ _ _ _ _ _ _ _ _ _ _ _ _ _ _ _ _ _ _ _ _ _ _ _ _ _ _ _ _ _ _ _ _ _ _ _ _ _ _ _ _ _ _ _ _ _) (by kernel_rfl) (by kernel_rfl) ⟨_, _, _, _, _, _, _, _, _, rfl, ⟨IQ.zero _ _ _ _ _ _ _, fun k => (by cases k), fun k => (by cases k), fun k => (by cases k), fun k => (by cases k), fun k => (by cases k)⟩⟩ ?_ ?_
    · refine .cons ?_ (.cons ?_ (.cons ?_ (.cons ?_ (.cons ?_ (.cons ?_ (.cons ?_ (.cons ?_ (.cons ?_ (.cons ?_ .nil)))))))))
      all_goals (rintro L _ W ⟨x43, x44, x45, x46, x42, x47, x48, x9, x10, rfl, hI⟩ hL hd K hK)
      · refine step_load_part (by rfl) 40 _ rfl g7 0 40 35 X (RX.out W hI.x.bel) rfl _ X XP.out LX.out Tryz.underlying40 rfl (by kernel_rfl) ?_
        exact hK.out _ _ ⟨_, _, _, _, _, _, _, _, _, rfl, { hI with p0 := fun _ => rfl }⟩
      · refine step_load_part (by rfl) 50 _ rfl (w.heap.size + 1) 0 50 5 CC (RCC.out W hI.x.bel) rfl _ CC CW.out LC5.out Tryz.underlying50 rfl (by kernel_rfl) ?_
        exact hK.out _ _ ⟨_, _, _, _, _, _, _, _, _, rfl, { hI with p1 := fun _ => rfl }⟩
      · obtain rfl := hI.p1 (hd 1 (by decide))
        rw [if_pos (by rfl)]
        go_simp
        refine (CVC.out W).mono ?_
        rintro e W2 ⟨rfl, hb9⟩
        go_simp
        have hX := hI.x.keep hb9
        exact hK.out _ _ ⟨_, _, _, _, _, _, _, _, _, rfl, { hI with x := hX, p2 := fun _ => rfl }⟩
      · obtain rfl := hI.p0 (hd 0 (by decide))
        obtain rfl := hI.p2 (hd 2 (by decide))
        rw [if_pos (by rfl)]
        go_simp
        refine (NRC.out W hI.x.bel).mono ?_
        rintro e W2 ⟨hb9, io9, ic9, lo9, lc9, rfl, ho9⟩
        go_simp
        have hX := hI.x.s6 hL hb9 ho9 (q' := true) rfl
        exact hK.out _ _ ⟨_, _, _, _, _, _, _, _, _, rfl, { hI with x := hX }⟩
      · rw [if_pos (by rfl)]
        have hX := hI.x.s7 (hd 3 (by decide)) (q' := true) rfl
        go_simp
        exact hK.out _ _ ⟨_, _, _, _, _, _, _, _, _, rfl, { hI with x := hX }⟩
      · obtain ⟨io9, ic9, lo9, lc9, u1, u2, e32, u3⟩ := hI.x.v (hI.x.c7 (hd 4 (by decide)))
        have e33 := e32 (hd 4 (by decide))
        clear u1 u2 u3 e32
        have hX := hI.x.s8 (hd 4 (by decide)) e33 (q' := true) rfl
        subst e33
        rw [if_pos (by rfl)]
        go_simp
        exact hK.out _ _ ⟨_, _, _, _, _, _, _, _, _, rfl, { hI with x := hX }⟩
      · rw [if_pos (by rfl)]
        obtain ⟨io9, ic9, lo9, lc9, u1, u2, e32, u3⟩ := hI.x.v (hI.x.c7 (hd 4 (by decide)))
        have e33 := e32 (hd 4 (by decide))
        clear u1 u2 u3 e32
        subst e33
        go_simp
        exact hK.out _ _ ⟨_, _, _, _, _, _, _, _, _, rfl, { hI with p6 := fun _ => rfl }⟩
      · rw [if_pos (by rfl)]
        have hX := hI.x.s10 hL (q' := true) rfl
        go_simp
        exact hK.out _ _ ⟨_, _, _, _, _, _, _, _, _, rfl, { hI with x := hX }⟩
      · have h8x := hd 5 (by decide)
        have h10 := hd 7 (by decide)
        obtain ⟨io9, ic9, lo9, lc9, _, _, _, e40, _⟩ := hI.x.v (hI.x.c7 (hI.x.c8 h8x))
        have e41 := e40 h8x
        obtain ⟨g9, e11, hg9, hr9⟩ := hI.x.a h10 hL
        refine step_store_Row rfl 40 (.tmp 9) (.tmp 47) rfl g9 40 zTk (tkCells y io9 ic9 lo9 lc9) hr9 (by rw [tkCells_len HY32.out]; rfl) e11 e41 (by rw [tkCells_len HY32.out]; kernel_rfl) (tkCells_one _ _ _ _ _) ?_
        intro W2 hr2 hs2
        have hX := hI.x.s11 h8x h10 e41 e11 hg9 hr9 hr2 hs2 (q' := true) rfl
        exact hK.out _ _ ⟨_, _, _, _, _, _, _, _, _, rfl, { hI with x := hX }⟩
      · obtain rfl := hI.p6 (hd 6 (by decide))
        rw [if_pos (by rfl)]
        go_simp
        exact hK.out _ _ ⟨_, _, _, _, _, _, _, _, _, rfl, { hI with p9 := fun _ => rfl }⟩
    · rintro L _ W hall ⟨x43, x44, x45, x46, x42, x47, x48, x9, x10, rfl, hI⟩
      obtain rfl := hI.p0 (hall 0 (by decide))
      obtain rfl := hI.p1 (hall 1 (by decide))
      obtain rfl := hI.p2 (hall 2 (by decide))
      obtain rfl := hI.p6 (hall 6 (by decide))
      obtain rfl := hI.p9 (hall 9 (by decide))
      have hXe := hI.x
      rw [hall 3 (by decide)] at hXe
      rw [hall 4 (by decide)] at hXe
      rw [hall 5 (by decide)] at hXe
      rw [hall 7 (by decide)] at hXe
      rw [hall 8 (by decide)] at hXe
      clear hI hall
      try dsimp only
      obtain ⟨ix, icx, lx, lcx, ho7, _, _, _, h11⟩ := hXe.v (hXe.c7 (hXe.c8 (hXe.c11 rfl).1))
      obtain ⟨gx, e11, hgx, hrx⟩ := h11 rfl
      have HB7 : Hid (Below W6.heap.size W6 W) := hXe.bel
      have HX7 : Hid (TkR W6.heap.size W gx y ix icx lx lcx) := ⟨hrx, ho7⟩
      clear hXe h11 ho7 hrx hgx
      subst e11
      go_wp2
      refine HK.out _ _ ?_
      clear HK
      obtain ⟨W7, hW7⟩ : ∃ W7, W7 = W := ⟨_, rfl⟩
      subst hW7
      have NRC' := NRC
      have RX' := RX
      have RCC' := RCC
      clear NRC RX RCC
      have NRC : Hid (∀ W, Below W7.heap.size W7 W → Calls Tryz.prog 15 #[.agg X.toArray, .agg CC.toArray] W fun e w' => Below W.heap.size W w' ∧ TkA y (.int .i64 Ev) W e w') := fun W h => NRC'.out W (HB7.out.trans (h.mono HB7.out.size))
      have RX : Hid (∀ W, Below W7.heap.size W7 W → Row W g7 40 X) := fun W h => RX'.out W (HB7.out.trans (h.mono HB7.out.size))
      have RCC : Hid (∀ W, Below W7.heap.size W7 W → Row W (w.heap.size + 1) 50 CC) := fun W h => RCC'.out W (HB7.out.trans (h.mono HB7.out.size))
      refine wp_seq_k fun K hK => ?_
      have HK : Hid _ := hK
      clear hK
      go_upto_region 8 with fail
      refine wp_region_inv (IKP8 W7 y Ev X CC _ _ _ _ _ _ _ _ _ _ _ _ _ _ _ _ _ _ _ _ _ _ _ _ _ _ _ _ _ _ _ _ _ _ _ _ _ _ _ _ _ _ _ _ _ _ _ _ _ _ _ _ _ _ _ _ _ _ _ _ _ _ _ _ _ _ _ _ _ _ _ _ _ _ _ _ _ _ _ _ _ _ _ _ _ _ _ _ _ _ _ _ _ _ _ _ _ _ _ _ _ _ _ _ _ _ _ _ _ _ _ _ _ _ _ _ _ _ _ _ _ _ _ _ _ _ _ _ _ _ _ _ _ _ _ _ _ _ _ _ _ _ _ _ _ _ _ _ _ _ _ _ _ _ _ _ _ _ _ _ _ _ _ _ _ _ _ _ _ _ _ _ _ _ _ _ _ _ _ _ _ _ _ _ _ _ _ _ _ _ _ _ _ _ _ _ _ _ _ _ _ _ _ _ _ _ _ _ _ _ _ _ _ _ _ _ _ _ _ _ _ _ _ _ _ _ _ _ _ _ _ _ _ _ _ _ _ _ _ _ _ _ _ _ _ _ _ _ _ _ _ _ _ _ _ _ _ _ _ _ _ _ _ _ _ _ _ _ _ _ _ _ _ _ _ _ _ _ _ _ _ _ _ _ _ _ _ _ _ _ _ _ _ _ _ _ _ _ _ _ _ _ _ _ _ _ _ _ _ _ _ _ _ _ _ _ _ _ _ _ _ _ _ _ _ _ _ _ _ _ _ _ _ _ _) (by kernel_rfl) (by kernel_rfl) ⟨_, _, _, _, _, _, _, _, _, rfl, ⟨IQ.zero _ _ _ _ _ _ _, fun k => (by cases k), fun k => (by cases k), fun k => (by cases k), fun k => (by cases k), fun k => (by cases k)⟩⟩ ?_ ?_
      · refine .cons ?_ (.cons ?_ (.cons ?_ (.cons ?_ (.cons ?_ (.cons ?_ (.cons ?_ (.cons ?_ (.cons ?_ (.cons ?_ .nil)))))))))
        all_goals (rintro L _ W ⟨x50, x51, x52, x53, x49, x54, x55, x11, x12, rfl, hI⟩ hL hd K hK)
        · refine step_load_part (by rfl) 40 _ rfl g7 0 40 35 X (RX.out W hI.x.bel) rfl _ X XP.out LX.out Tryz.underlying40 rfl (by kernel_rfl) ?_
          exact hK.out _ _ ⟨_, _, _, _, _, _, _, _, _, rfl, { hI with p0 := fun _ => rfl }⟩
        · refine step_load_part (by rfl) 50 _ rfl (w.heap.size + 1) 0 50 5 CC (RCC.out W hI.x.bel) rfl _ CC CW.out LC5.out Tryz.underlying50 rfl (by kernel_rfl) ?_
          exact hK.out _ _ ⟨_, _, _, _, _, _, _, _, _, rfl, { hI with p1 := fun _ => rfl }⟩
        · obtain rfl := hI.p1 (hd 1 (by decide))
          rw [if_pos (by rfl)]
          go_simp
          refine (CVC.out W).mono ?_
          rintro e W2 ⟨rfl, hb9⟩
          go_simp
          have hX := hI.x.keep hb9
          exact hK.out _ _ ⟨_, _, _, _, _, _, _, _, _, rfl, { hI with x := hX, p2 := fun _ => rfl }⟩
        · obtain rfl := hI.p0 (hd 0 (by decide))
          obtain rfl := hI.p2 (hd 2 (by decide))
          rw [if_pos (by rfl)]
          go_simp
          refine (NRC.out W hI.x.bel).mono ?_
          rintro e W2 ⟨hb9, io9, ic9, lo9, lc9, rfl, ho9⟩
          go_simp
          have hX := hI.x.s6 hL hb9 ho9 (q' := true) rfl
          exact hK.out _ _ ⟨_, _, _, _, _, _, _, _, _, rfl, { hI with x := hX }⟩
        · rw [if_pos (by rfl)]
          have hX := hI.x.s7 (hd 3 (by decide)) (q' := true) rfl
          go_simp
          exact hK.out _ _ ⟨_, _, _, _, _, _, _, _, _, rfl, { hI with x := hX }⟩
        · obtain ⟨io9, ic9, lo9, lc9, u1, u2, e32, u3⟩ := hI.x.v (hI.x.c7 (hd 4 (by decide)))
          have e33 := e32 (hd 4 (by decide))
          clear u1 u2 u3 e32
          have hX := hI.x.s8 (hd 4 (by decide)) e33 (q' := true) rfl
          subst e33
          rw [if_pos (by rfl)]
          go_simp
          exact hK.out _ _ ⟨_, _, _, _, _, _, _, _, _, rfl, { hI with x := hX }⟩
        · rw [if_pos (by rfl)]
          obtain ⟨io9, ic9, lo9, lc9, u1, u2, e32, u3⟩ := hI.x.v (hI.x.c7 (hd 4 (by decide)))
          have e33 := e32 (hd 4 (by decide))
          clear u1 u2 u3 e32
          subst e33
          go_simp
          exact hK.out _ _ ⟨_, _, _, _, _, _, _, _, _, rfl, { hI with p6 := fun _ => rfl }⟩
        · rw [if_pos (by rfl)]
          have hX := hI.x.s10 hL (q' := true) rfl
          go_simp
          exact hK.out _ _ ⟨_, _, _, _, _, _, _, _, _, rfl, { hI with x := hX }⟩
        · have h8x := hd 5 (by decide)
          have h10 := hd 7 (by decide)
          obtain ⟨io9, ic9, lo9, lc9, _, _, _, e40, _⟩ := hI.x.v (hI.x.c7 (hI.x.c8 h8x))
          have e41 := e40 h8x
          obtain ⟨g9, e11, hg9, hr9⟩ := hI.x.a h10 hL
          refine step_store_Row rfl 40 (.tmp 11) (.tmp 54) rfl g9 40 zTk (tkCells y io9 ic9 lo9 lc9) hr9 (by rw [tkCells_len HY32.out]; rfl) e11 e41 (by rw [tkCells_len HY32.out]; kernel_rfl) (tkCells_one _ _ _ _ _) ?_
          intro W2 hr2 hs2
          have hX := hI.x.s11 h8x h10 e41 e11 hg9 hr9 hr2 hs2 (q' := true) rfl
          exact hK.out _ _ ⟨_, _, _, _, _, _, _, _, _, rfl, { hI with x := hX }⟩
        · obtain rfl := hI.p6 (hd 6 (by decide))
          rw [if_pos (by rfl)]
          go_simp
          exact hK.out _ _ ⟨_, _, _, _, _, _, _, _, _, rfl, { hI with p9 := fun _ => rfl }⟩
      · rintro L _ W hall ⟨x50, x51, x52, x53, x49, x54, x55, x11, x12, rfl, hI⟩
        obtain rfl := hI.p0 (hall 0 (by decide))
        obtain rfl := hI.p1 (hall 1 (by decide))
        obtain rfl := hI.p2 (hall 2 (by decide))
        obtain rfl := hI.p6 (hall 6 (by decide))
        obtain rfl := hI.p9 (hall 9 (by decide))
        have hXe := hI.x
        rw [hall 3 (by decide)] at hXe
        rw [hall 4 (by decide)] at hXe
        rw [hall 5 (by decide)] at hXe
        rw [hall 7 (by decide)] at hXe
        rw [hall 8 (by decide)] at hXe
        clear hI hall
        try dsimp only
        obtain ⟨iy, icy, ly, lcy, ho8, _, _, _, h12⟩ := hXe.v (hXe.c7 (hXe.c8 (hXe.c11 rfl).1))
        obtain ⟨gy, e12, hgy, hry⟩ := h12 rfl
        have HB8 : Hid (Below W7.heap.size W7 W) := hXe.bel
        have HY8 : Hid (TkR W7.heap.size W gy y iy icy ly lcy) := ⟨hry, ho8⟩
        clear hXe h12 ho8 hry hgy
        subst e12
        go_wp2
        refine HK.out _ _ ?_
        clear HK
        obtain ⟨W8, hW8⟩ : ∃ W8, W8 = W := ⟨_, rfl⟩
        subst hW8
        have HX8 : Hid (TkR W6.heap.size W8 gx y ix icx lx lcx) := HX7.out.keep HB8.out
        have HB68 : Hid (Below W6.heap.size W6 W8) := HB7.out.trans (HB8.out.mono HB7.out.size)
        have HL7 : Hid ((∀ B off, ix = some ⟨B, off, none⟩ → B < W7.heap.size) ∧ (∀ B off, lx = some ⟨B, off, none⟩ → B < W7.heap.size) ∧ W6.heap.size ≤ W7.heap.size) := ⟨fun B off e => (own_lies HX7.out.own.id.1 B off e).2.2, fun B off e => (own_lies HX7.out.own.cs B off e).2.2, HB7.out.size⟩
        have RT8 : Hid (Row W8 w.heap.size 28 T) := RT.out W8 (HM5.out W8 (B56.out W8 HB68.out)).1
        have RC8 : Hid (Row W8 (w.heap.size + 1) 50 CC) := RCC'.out W8 HB68.out
        have RN8 := RNC.out W8 HB68.out
        clear NRC RX RCC NRC' RCC' HX7 HB7 HB8
        refine wp_seq_k fun K hK => ?_
        have HK : Hid _ := hK
        clear hK
        go_wp2_with (first
          | (have hz := RT8; clear hz; refine wpList_load_Row rfl 28 (.tmp 3) rfl w.heap.size 28 T RT8.out rfl _ Tryz.underlying28 rfl (by rw [LT.out]; kernel_rfl) ?_; clear RT8)
          | (have hz := RC8; clear hz; refine wpList_load_Row rfl 50 (.tmp 4) rfl (w.heap.size + 1) 50 CC RC8.out rfl _ Tryz.underlying50 rfl (by rw [LC5.out]; kernel_rfl) ?_; clear RC8))
        refine RN8.mono ?_
        clear RN8
        rintro e w9 ⟨hb9, jo, jc, ko, kc, rfl, ho9⟩
        dsimp only
        have HB9 : Hid (Below W8.heap.size W8 w9) := hb9
        have HV9 : Hid (TkV w9 y jo jc ko kc) := ho9.v
        have Z9 : Hid (Row (w9.alloc (.cells zTk.toArray 28)) w9.heap.size 28 zTk) := Row.at w9 _ _ _ _ rfl rfl
        clear hb9 ho9
        go_wp2_with (first
          | (have hz := Z9; clear hz; refine wpList_store_Row rfl 28 (.tmp 13) (.tmp 60) rfl w9.heap.size 28 0 zTk (tkCells y jo jc ko kc) Z9.out (by rw [tkCells_len HY32.out]; exact Nat.le_refl _) rfl rfl (by rw [tkCells_len HY32.out]; kernel_rfl) (tkCells_one _ _ _ _ _) ?_; intro w10 hr10 hs10; have HR10 : Hid (Row w10 w9.heap.size 28 (tkCells y jo jc ko kc)) := row_whole hr10 (by rw [tkCells_len HY32.out]; exact Nat.le_refl _); have HB10 : Hid (Below w9.heap.size w9 w10) := hs10.below ((Below.refl _ _).alloc (Nat.le_refl _) _) (Nat.le_refl _); clear Z9 hr10 hs10))
        refine HK.out _ _ ?_
        clear HK
        have HB8a : Hid (Below W8.heap.size W8 w10) := HB9.out.trans (HB10.out.mono HB9.out.size)
        have HB6a : Hid (Below W6.heap.size W6 w10) := HB68.out.trans (HB8a.out.mono HB68.out.size)
        have RM10 : Hid (Row w10 g7 40 X) := RX'.out w10 HB6a.out
        have PU := PUT.out w10 HB6a.out
        refine wp_seq_k fun K hK => ?_
        have HK : Hid _ := hK
        clear hK
        go_wp2_with (first
          | (have hz := RM10; clear hz; refine wpList_load_Row rfl 40 (.tmp 7) rfl g7 40 X RM10.out rfl _ Tryz.underlying40 rfl (by rw [LX.out]; kernel_rfl) ?_; clear RM10))
        refine PU.mono ?_
        clear PU
        rintro e w11 ⟨hb11, h11⟩
        obtain ⟨v11, rfl⟩ : ∃ v11, e = .returned v11 := by
          split at h11
          · obtain ⟨_, _, e1, _⟩ := h11; exact ⟨_, e1⟩
          · exact ⟨_, h11⟩
        dsimp only
        have H11 : Hid (Below w10.heap.size w10 w11) := hb11
        clear h11 hb11
        go_wp2
        refine HK.out _ _ ?_
        clear HK
        have HBB8 : Below W8.heap.size W8 w11 := HB8a.out.trans (H11.out.mono HB8a.out.size)
        have HBB6 : Below W6.heap.size W6 w11 := HB68.out.trans (HBB8.mono HB68.out.size)
        have HBB5 : Below w5.heap.size w5 w11 := B56.out w11 HBB6
        have HBB9 : Below w9.heap.size w9 w11 := HB10.out.trans (H11.out.mono HB10.out.size)
        have hm := HM5.out w11 HBB5
        have bw : ∀ W, Below w5.heap.size w5 W → Below w.heap.size w W := fun W h => HB1.out.trans ((HM5.out W h).1.mono HB1.out.size)
        have ht : ∀ W, Below w5.heap.size w5 W → Row W w.heap.size 28 (tkCells t it ict lt lct) ∧ TkV W t it ict lt lct := fun W h => ⟨by rw [HT.out]; exact RT.out W (HM5.out W h).1, VT.out W (HM5.out W h).1⟩
        have b6s := HB6.out.size
        refine kp9 _ _ _ _ _ _ _ _ _ _ _ _ _ _ _ _ _ _ _ _ _ _ _ _ _ _ _ _ _ _ _ _ _ _ _ _ _ _ _ _ _ _ _ _ _ _ _ _ _ _ _ _ _ _ _ _ _ _ _ _ _ _ _ _ _ _ _ _ _ _ _ _ _ _ _ _ _ _ _ _ _ _ _ _ _ _ _ _ _ _ _ _ _ _ _ _ _ _ _ _ _ _ _ _ _ _ _ _ _ _ _ _ _ _ _ _ _ _ _ _ _ _ _ _ _ _ _ _ _ _ _ _ _ _ _ _ _ _ _ _ _ _ _ _ _ _ _ _ _ _ _ _ _ _ _ _ _ _ _ _ _ _ _ _ _ _ _ _ _ _ _ _ _ _ _ _ _ _ _ _ _ _ _ _ _ _ _ _ _ _ _ _ _ _ _ _ _ _ _ _ _ _ _ _ _ _ _ _ _ _ _ _ _ _ _ _ _ _ _ _ _ _ _ _ _ _ _ _ _ _ _ _ _ _ _ _ _ _ _ _ _ _ _ _ _ _ _ _ _ _ _ _ _ _ _ _ _ _ _ _ _ _ _ _ _ _ _ _ _ _ _ _ _ _ _ _ _ _ _ _ _ _ _ _ _ _ _ _ _ _ _ _ _ _ _ _ _ _ _ _ _ _ _ _ _ _ _ _ _ _ _ _ _ _ _ _ _ _ _ _ _ _ _ _ _ _ _ _ _ _ _ _ _ _ _ _ _ w11 w.heap.size g7 gx gy w9.heap.size cq G H ict lct t y it lt Ev ix icx lx lcx iy icy ly lcy jo jc ko kc W6.heap.size W7.heap.size (HX8.out.keep HBB8) (HY8.out.keep HBB8) (HR10.out.below H11.out HR10.out.lt) (HV9.out.keep HBB9) hm.2.1 hm.2.2.1 (ht w11 HBB5).1 (ht w11 HBB5).2 hm.2.2.2.1 HCQ.out HYL.out HFW.out w ?_
        intro c0 c1 c4 c5 c6 c10 c12 c13 c15 c16 c17 c18 c19 c20 c21 c22 c23 c24 c25 c26 c27 c28 c29 c30 c31 c32 c33 c34 c35 c36 c37 c38 c39 c40 c41 c42 c43 c44 c45 c46 c47 c48 c49 c50 c51 c52 c53 c54 c55 c56 c57 c58 c59 c60 c61 c62 c63 c64 c65 c66 c67 c68 c69 c70 c71 c72 c73 c74 c75 c76 c77 c78 c79 c80 c81 c82 c83 c84 c85 c86 c87 c88 c89 c90 c91 c92 c93 c94 c95 c96 c97 c98 c99 c100 c101 c102 c103 c104 c105 c106 c107 c108 c109 c110 c111 c112 c113 c114 c115 c116 c117 c118 c119 c120 c121 c122 c123 c124 c125 c126 c127 c128 c129 c130 c131 c132 c133 c134 c135 c136 c137 c138 c139 c140 c141 c142 c143 c144 c145 c146 c147 c148 c149 c150 c151 c152 c153 c154 c155 c156 c157 c158 c159 c160 c161 c162 c163 c164 c165 c166 c167 c168 c169 c170 c171 c172 c173 c174 c175 c176 c177 c178 c179 c180 c181 c182 c183 c184 c185 c186 c187 c188 c189 c190 c191 c192 c193 c194 c195 c196 c197 c198 c199 c200 c201 c202 c203 c204 c205 c206 c207 c208 c209 c210 c211 c212 c213 c214 c215 c216 c217 c218 c219 c220 c221 c222 c223 c224 c225 c226 c227 c228 c229 c230 c231 c232 c233 c234 c235 c236 c237 c238 c239 c240 c241 c242 c243 c244 c245 c246 c247 c248 c249 c250 c251 c252 c253 c254 c255 c256 c257 c258 c259 c260 c261 c262 c263 c264 c265 c266 c267 c268 c269 c270 c271 c272 c273 c274 c275 c276 c277 c278 c279 c280 c281 c282 c283 c284 c285 c286 c287 c288 c289 c290 c291 c292 c293 c294 c295 c296 c297 c298 c299 c300 c301 c302 c303 c304 c305 c306 c307 c308 c309 c310 c311 c312 c313 c314 c315 c316 c317 c318 c319 c320 c321 c322 c323 c324 c325 c326 c327 c328 c329 c330 c331 c332 c333 c334 c335 c336 c337 c338 c339 c340 c341 c342 c343 W hW
        have h5W : Below w5.heap.size w5 W := HBB5.trans (hW.mono HBB5.size)
        have h6W : Below W6.heap.size W6 W := HBB6.trans (hW.mono HBB6.size)
        have h8W : Below W8.heap.size W8 W := HBB8.trans (hW.mono HBB8.size)
        exact kp10 c0 c1 c4 c5 c6 c10 c12 c13 c15 c16 c17 c18 c19 c20 c21 c22 c23 c24 c25 c26 c27 c28 c29 c30 c31 c32 c33 c34 c35 c36 c37 c38 c39 c40 c41 c42 c43 c44 c45 c46 c47 c48 c49 c50 c51 c52 c53 c54 c55 c56 c57 c58 c59 c60 c61 c62 c63 c64 c65 c66 c67 c68 c69 c70 c71 c72 c73 c74 c75 c76 c77 c78 c79 c80 c81 c82 c83 c84 c85 c86 c87 c88 c89 c90 c91 c92 c93 c94 c95 c96 c97 c98 c99 c100 c101 c102 c103 c104 c105 c106 c107 c108 c109 c110 c111 c112 c113 c114 c115 c116 c117 c118 c119 c120 c121 c122 c123 c124 c125 c126 c127 c128 c129 c130 c131 c132 c133 c134 c135 c136 c137 c138 c139 c140 c141 c142 c143 c144 c145 c146 c147 c148 c149 c150 c151 c152 c153 c154 c155 c156 c157 c158 c159 c160 c161 c162 c163 c164 c165 c166 c167 c168 c169 c170 c171 c172 c173 c174 c175 c176 c177 c178 c179 c180 c181 c182 c183 c184 c185 c186 c187 c188 c189 c190 c191 c192 c193 c194 c195 c196 c197 c198 c199 c200 c201 c202 c203 c204 c205 c206 c207 c208 c209 c210 c211 c212 c213 c214 c215 c216 c217 c218 c219 c220 c221 c222 c223 c224 c225 c226 c227 c228 c229 c230 c231 c232 c233 c234 c235 c236 c237 c238 c239 c240 c241 c242 c243 c244 c245 c246 c247 c248 c249 c250 c251 c252 c253 c254 c255 c256 c257 c258 c259 c260 c261 c262 c263 c264 c265 c266 c267 c268 c269 c270 c271 c272 c273 c274 c275 c276 c277 c278 c279 c280 c281 c282 c283 c284 c285 c286 c287 c288 c289 c290 c291 c292 c293 c294 c295 c296 c297 c298 c299 c300 c301 c302 c303 c304 c305 c306 c307 c308 c309 c310 c311 c312 c313 c314 c315 c316 c317 c318 c319 c320 c321 c322 c323 c324 c325 c326 c327 c328 c329 c330 c331 c332 c333 c334 c335 c336 c337 c338 c339 c340 c341 c342 c343 HC.out w w5 W w5.heap.size w.heap.size g7 t (some ⟨G, 0, none⟩) cq H it ict lt lct bw (fun W h => ⟨(HM5.out W h).2.1, (HM5.out W h).2.2.1, (ht W h).1, (ht W h).2⟩) (fun W h => (HM5.out W h).2.2.2.2) HFW.out bo cap b (fun W h => VB.out W (HM5.out W h).1) HBB.out.1 HBB.out.2.1 HBB.out.2.2 rfl h5W h5W.size w5.heap.size 0 (owB_keep HD6.out h6W) y HYL.out Ev gx gy W6.heap.size W7.heap.size ix icx lx lcx iy icy ly lcy (HX8.out.keep h8W) (HY8.out.keep h8W) b6s HL7.out.2.2 HL7.out.1 HL7.out.2.1
  · rw [decide_eq_false hf] at FW
    clear hf
    go_wp2_with (first
      | (have hz := R2; clear hz; refine wpList_load_Row rfl 28 (.tmp 3) rfl w.heap.size 28 T R2 rfl _ Tryz.underlying28 rfl (by rw [LT.out]; kernel_rfl) ?_; clear R2))
    refine FW.mono ?_
    clear FW
    rintro e w3 ⟨rfl, hb3⟩
    dsimp only
    have HB3 : Hid (Below w.heap.size w w3) := HB1.out.trans ((HB2.out.trans (hb3.mono HB2.out.size)).mono HB1.out.size)
    clear hb3
    go_wp2
    go_ret
    exact ⟨rfl, HB3.out⟩
end Go.Proofs.YtjooabgjkjnhhaaGreatDoor
