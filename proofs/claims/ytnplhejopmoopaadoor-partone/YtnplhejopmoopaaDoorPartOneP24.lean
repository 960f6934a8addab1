/- Texts of PartOne, one behind the other: HashPart, PartAwakePlain, StoreHeld, MmrHeld, StepLists. -/
import Derived.Deep.AppendLies
import Derived.Test.YtnplhejopmoopaaDoorPartOneP23
/- Two nodes over unlike right leaves, reckoned out by the kernel. -/
namespace Go.Proofs.YtnplhejopmoopaaDoor.HX
open Go.RowKit
set_option maxRecDepth 100000

theorem comp_fun (s b : Nat → Nat) (L : List Nat) (h : (List.range 32).map (COMP 32 s b) = L) (hL : L.length = 32) : COMP 32 s b = fun i => L.getD i 0 := by
  funext i
  by_cases hi : i < 32
  · rw [← h, List.getD_eq_getElem?_getD, List.getElem?_map, List.getElem?_range hi]
    rfl
  · rw [List.getD_eq_getElem?_getD, List.getElem?_eq_none (by omega), COMP, NARROW, if_neg (by have : WID 32 = 32 := rfl; omega)]
    rfl
theorem hashof_len (d : Int) (l : List Nat) (n : Nat) (h : l.length = n) : HASHOF d l = STATE d (l ++ END n) ((l ++ END n).length / 64) := by
  subst h
  rfl
theorem state_two (d : Int) (l : List Nat) : STATE d l 2 = COMP d (COMP d (FIRST d) (BLK l 0)) (BLK l 1) := rfl

def paB0 : Nat → Nat := BLK ([1, 0, 0, 0, 0, 0, 0, 0, 0, 0, 0, 0, 0, 0, 0, 0, 0, 0, 0, 0, 0, 0, 0, 0, 0, 0, 0, 0, 0, 0, 0, 0, 0, 1, 0, 0, 0, 0, 0, 0, 0, 0, 0, 0, 0, 0, 0, 0, 0, 0, 0, 0, 0, 0, 0, 0, 0, 0, 0, 0, 0, 0, 0, 0, 0] ++ END 65) 0
theorem pax0list : (List.range 32).map (COMP 32 (FIRST 32) paB0) = [244, 197, 33, 68, 31, 116, 141, 211, 78, 91, 167, 155, 158, 49, 182, 179, 65, 159, 200, 40, 25, 40, 13, 113, 146, 205, 39, 150, 133, 226, 122, 126] := comp_fast _ _ [16777216, 0, 0, 0, 0, 0, 0, 0, 65536, 0, 0, 0, 0, 0, 0, 0, 16777216, 0, 16544, 0, 675545104, 0, 2147483690, 1090527744, 3215360, 357607752, 2852129882, 1775000632, 126648387, 629230322, 287842839, 2357282402, 731761153, 2248559728, 3323393191, 478172326, 4072401270, 1995681761, 2521588928, 1387615609, 4259829909, 2121365339, 1221305093, 2563758916, 3602387555, 4147981446, 4097261695, 872173916, 1424830272, 1539461890, 3955521704, 1629467496, 3309338271, 633445730, 2829292763, 1729689298, 4150970576, 3140115049, 1412716868, 2655650319, 4232167253, 313781071, 3995010958, 1981172910] ⟨1779033703, 3144134277, 1013904242, 2773480762, 1359893119, 2600822924, 528734635, 1541459225⟩ ⟨3454435197, 1413431039, 2732042291, 3858185507, 3542089098, 510099778, 4045903399, 3534975565⟩ ⟨2041689687, 2667936636, 1067692783, 1508977683, 1090530149, 3244107707, 2904765143, 497722021⟩ ⟨2176061252, 3199193510, 2637048405, 3089830758, 2108154111, 1282904669, 1871917481, 1689415085⟩ ⟨3037118882, 2503015530, 2392694693, 1730740791, 3720050886, 4023593693, 304620700, 3518808218⟩ ⟨3239366081, 3486004159, 2382204806, 2980940238, 3761861453, 2937066818, 3076970300, 2275141549⟩ ⟨2369847375, 626295132, 517183631, 688319190, 2862043663, 2899650554, 1153791260, 3150143599⟩ ⟨3747536957, 926320437, 1598825340, 2150511835, 4183087208, 3535266115, 3162719482, 1632350488⟩ ⟨2327526109, 1678565198, 300725289, 4175544697, 4036064681, 2116199653, 1934183915, 704752997⟩ _ (by kernel_rfl) (by kernel_rfl) (by kernel_rfl) (by kernel_rfl) (by kernel_rfl) (by kernel_rfl) (by kernel_rfl) (by kernel_rfl) (by kernel_rfl) (by kernel_rfl) (by kernel_rfl)
def paS1 (i : Nat) : Nat := ([244, 197, 33, 68, 31, 116, 141, 211, 78, 91, 167, 155, 158, 49, 182, 179, 65, 159, 200, 40, 25, 40, 13, 113, 146, 205, 39, 150, 133, 226, 122, 126] : List Nat).getD i 0
theorem pax0fun : COMP 32 (FIRST 32) paB0 = paS1 := comp_fun _ _ _ pax0list rfl
def paB1 : Nat → Nat := BLK ([1, 0, 0, 0, 0, 0, 0, 0, 0, 0, 0, 0, 0, 0, 0, 0, 0, 0, 0, 0, 0, 0, 0, 0, 0, 0, 0, 0, 0, 0, 0, 0, 0, 1, 0, 0, 0, 0, 0, 0, 0, 0, 0, 0, 0, 0, 0, 0, 0, 0, 0, 0, 0, 0, 0, 0, 0, 0, 0, 0, 0, 0, 0, 0, 0] ++ END 65) 1
theorem pax1list : (List.range 32).map (COMP 32 paS1 paB1) = [105, 112, 201, 231, 211, 125, 171, 173, 86, 90, 165, 216, 241, 65, 162, 160, 118, 253, 43, 89, 81, 55, 205, 113, 70, 14, 29, 36, 167, 3, 72, 89] := comp_fast _ _ [8388608, 0, 0, 0, 0, 0, 0, 0, 0, 0, 0, 0, 0, 0, 0, 520, 8388608, 21299200, 8272, 536891850, 337772552, 584340500, 1073742365, 2701140005, 44173312, 339625208, 1694563153, 4278716177, 2242916914, 1129645185, 3506478796, 628319913, 2977178064, 3991071337, 406371735, 1621178620, 3658518620, 3780499249, 384976696, 638312866, 3214235832, 1243750311, 182604009, 2659197837, 356352104, 336154357, 4137126667, 853682779, 2775401939, 1266820032, 2082364340, 1380617036, 3740401288, 3490069983, 3277659361, 3581733188, 4180500541, 4151572106, 2036484278, 3048466945, 229369751, 1271992381, 2516438927, 3098484440] ⟨4106559812, 527732179, 1314629531, 2654058163, 1100990504, 422055281, 2462918550, 2246212222⟩ ⟨2648879439, 3064247625, 3655165244, 1554458811, 857058422, 4186209376, 3817629140, 834578768⟩ ⟨3904072061, 4263282944, 2864928883, 3706446018, 1002498981, 1079235714, 976924767, 1069573383⟩ ⟨365075842, 2116804447, 120153198, 1979593190, 2973120245, 1411808693, 3735164397, 1878605779⟩ ⟨1591987454, 2412875847, 2632187279, 1129787653, 4022709260, 3468039551, 810966678, 3767325853⟩ ⟨3301688038, 321086061, 1585396905, 2822423318, 4066782093, 4009264519, 896223148, 1809901584⟩ ⟨3464659108, 2817094972, 2219313293, 3698949182, 4008026453, 1713861266, 625029151, 486992118⟩ ⟨3950743607, 398959047, 1066928183, 4289654830, 3187323044, 3107084754, 1048456698, 1366920807⟩ ⟨1957406883, 3020496346, 134151741, 1393552365, 895312689, 940556288, 3007378830, 555797979⟩ _ (by kernel_rfl) (by kernel_rfl) (by kernel_rfl) (by kernel_rfl) (by kernel_rfl) (by kernel_rfl) (by kernel_rfl) (by kernel_rfl) (by kernel_rfl) (by kernel_rfl) (by kernel_rfl)
def paS2 (i : Nat) : Nat := ([105, 112, 201, 231, 211, 125, 171, 173, 86, 90, 165, 216, 241, 65, 162, 160, 118, 253, 43, 89, 81, 55, 205, 113, 70, 14, 29, 36, 167, 3, 72, 89] : List Nat).getD i 0
theorem pax1fun : COMP 32 paS1 paB1 = paS2 := comp_fun _ _ _ pax1list rfl
theorem palen : ([1, 0, 0, 0, 0, 0, 0, 0, 0, 0, 0, 0, 0, 0, 0, 0, 0, 0, 0, 0, 0, 0, 0, 0, 0, 0, 0, 0, 0, 0, 0, 0, 0, 1, 0, 0, 0, 0, 0, 0, 0, 0, 0, 0, 0, 0, 0, 0, 0, 0, 0, 0, 0, 0, 0, 0, 0, 0, 0, 0, 0, 0, 0, 0, 0] ++ END 65).length / 64 = 2 := by rw [List.length_append, END_length]; kernel_rfl
theorem pahash : HASHOF 32 [1, 0, 0, 0, 0, 0, 0, 0, 0, 0, 0, 0, 0, 0, 0, 0, 0, 0, 0, 0, 0, 0, 0, 0, 0, 0, 0, 0, 0, 0, 0, 0, 0, 1, 0, 0, 0, 0, 0, 0, 0, 0, 0, 0, 0, 0, 0, 0, 0, 0, 0, 0, 0, 0, 0, 0, 0, 0, 0, 0, 0, 0, 0, 0, 0] = paS2 := by
  rw [hashof_len 32 [1, 0, 0, 0, 0, 0, 0, 0, 0, 0, 0, 0, 0, 0, 0, 0, 0, 0, 0, 0, 0, 0, 0, 0, 0, 0, 0, 0, 0, 0, 0, 0, 0, 1, 0, 0, 0, 0, 0, 0, 0, 0, 0, 0, 0, 0, 0, 0, 0, 0, 0, 0, 0, 0, 0, 0, 0, 0, 0, 0, 0, 0, 0, 0, 0] 65 rfl, palen, state_two]
  show COMP 32 (COMP 32 (FIRST 32) paB0) paB1 = paS2
  rw [pax0fun, pax1fun]
def pbB0 : Nat → Nat := BLK ([1, 0, 0, 0, 0, 0, 0, 0, 0, 0, 0, 0, 0, 0, 0, 0, 0, 0, 0, 0, 0, 0, 0, 0, 0, 0, 0, 0, 0, 0, 0, 0, 0, 2, 0, 0, 0, 0, 0, 0, 0, 0, 0, 0, 0, 0, 0, 0, 0, 0, 0, 0, 0, 0, 0, 0, 0, 0, 0, 0, 0, 0, 0, 0, 0] ++ END 65) 0
theorem pbx0list : (List.range 32).map (COMP 32 (FIRST 32) pbB0) = [168, 146, 179, 219, 199, 147, 69, 56, 217, 220, 32, 55, 43, 110, 81, 233, 10, 174, 26, 150, 117, 238, 112, 104, 35, 104, 226, 158, 189, 63, 116, 45] := comp_fast _ _ [16777216, 0, 0, 0, 0, 0, 0, 0, 131072, 0, 0, 0, 0, 0, 0, 0, 16777216, 0, 16544, 0, 675545104, 0, 2147483690, 2164278272, 3280896, 715149649, 1241517211, 1254889504, 130829379, 252092259, 816337932, 2628925444, 1277953445, 4115531377, 3443613010, 4042515941, 3162181330, 69562031, 57702375, 1807080350, 3722761308, 2340067207, 2068482178, 3057640012, 2171041907, 724610925, 2216959303, 4284323049, 3786406478, 3570712659, 2992565765, 3686087921, 2546064671, 2511009448, 522068072, 169504035, 1116775828, 1657815860, 346063016, 2702740020, 1547816574, 933264637, 374732456, 4081068174] ⟨1779033703, 3144134277, 1013904242, 2773480762, 1359893119, 2600822924, 528734635, 1541459225⟩ ⟨3454435197, 1413431039, 2732042291, 3858185507, 3542089098, 510099778, 4045903399, 3534975565⟩ ⟨2622198046, 3767115642, 2296916735, 2754491318, 4119150914, 656623691, 978628334, 1667305002⟩ ⟨1052712878, 3510986617, 1978162596, 764115251, 2576350328, 2890687719, 1932037822, 3924464696⟩ ⟨3188967006, 762322865, 3992666886, 2414725927, 1011708661, 1527884697, 4068363997, 1780924540⟩ ⟨3626265747, 3305666314, 236099191, 1041732879, 229481080, 1690961640, 3779232926, 840335335⟩ ⟨3248184436, 2400829783, 2985511589, 3679910002, 1200198471, 2418272948, 3409380329, 1468028001⟩ ⟨3938313636, 2472967113, 3827793257, 91673045, 2345869872, 1882536166, 1648695602, 1980265346⟩ ⟨1049152884, 204183219, 2641177797, 2250136751, 3114256407, 3672704988, 65341683, 1633593108⟩ _ (by kernel_rfl) (by kernel_rfl) (by kernel_rfl) (by kernel_rfl) (by kernel_rfl) (by kernel_rfl) (by kernel_rfl) (by kernel_rfl) (by kernel_rfl) (by kernel_rfl) (by kernel_rfl)
def pbS1 (i : Nat) : Nat := ([168, 146, 179, 219, 199, 147, 69, 56, 217, 220, 32, 55, 43, 110, 81, 233, 10, 174, 26, 150, 117, 238, 112, 104, 35, 104, 226, 158, 189, 63, 116, 45] : List Nat).getD i 0
theorem pbx0fun : COMP 32 (FIRST 32) pbB0 = pbS1 := comp_fun _ _ _ pbx0list rfl
def pbB1 : Nat → Nat := BLK ([1, 0, 0, 0, 0, 0, 0, 0, 0, 0, 0, 0, 0, 0, 0, 0, 0, 0, 0, 0, 0, 0, 0, 0, 0, 0, 0, 0, 0, 0, 0, 0, 0, 2, 0, 0, 0, 0, 0, 0, 0, 0, 0, 0, 0, 0, 0, 0, 0, 0, 0, 0, 0, 0, 0, 0, 0, 0, 0, 0, 0, 0, 0, 0, 0] ++ END 65) 1
theorem pbx1list : (List.range 32).map (COMP 32 pbS1 pbB1) = [164, 1, 125, 72, 63, 68, 228, 50, 122, 253, 158, 240, 91, 164, 219, 138, 219, 73, 247, 216, 128, 92, 60, 74, 207, 239, 62, 221, 88, 18, 152, 21] := comp_fast _ _ [8388608, 0, 0, 0, 0, 0, 0, 0, 0, 0, 0, 0, 0, 0, 0, 520, 8388608, 21299200, 8272, 536891850, 337772552, 584340500, 1073742365, 2701140005, 44173312, 339625208, 1694563153, 4278716177, 2242916914, 1129645185, 3506478796, 628319913, 2977178064, 3991071337, 406371735, 1621178620, 3658518620, 3780499249, 384976696, 638312866, 3214235832, 1243750311, 182604009, 2659197837, 356352104, 336154357, 4137126667, 853682779, 2775401939, 1266820032, 2082364340, 1380617036, 3740401288, 3490069983, 3277659361, 3581733188, 4180500541, 4151572106, 2036484278, 3048466945, 229369751, 1271992381, 2516438927, 3098484440] ⟨2828186587, 3348317496, 3655082039, 728650217, 179182230, 1978560616, 594076318, 3175052333⟩ ⟨2630795768, 276929185, 624692363, 4093560282, 722167014, 1207090812, 2436713250, 3879598060⟩ ⟨1397706631, 754166274, 2532897220, 588940181, 2225389900, 3323276851, 2239039875, 2012439538⟩ ⟨1734063794, 1309256595, 117917122, 3583683199, 944457820, 2047502787, 141985016, 1328315027⟩ ⟨1312658387, 1056654919, 4146155772, 2564982567, 82183405, 1999314100, 2528381801, 3331226328⟩ ⟨4192375094, 3633087959, 4176811930, 3206505025, 3878485603, 1285520522, 539999541, 1876051867⟩ ⟨1818300031, 2931783589, 1067273114, 4262751346, 1700967310, 3388382425, 377188750, 2912912433⟩ ⟨1599777270, 2386815608, 1795325019, 652939156, 1150145578, 2756804304, 48702671, 3110643013⟩ ⟨4218341741, 2008129274, 2703326905, 808880545, 3499875650, 174967778, 2894486591, 2597528552⟩ _ (by kernel_rfl) (by kernel_rfl) (by kernel_rfl) (by kernel_rfl) (by kernel_rfl) (by kernel_rfl) (by kernel_rfl) (by kernel_rfl) (by kernel_rfl) (by kernel_rfl) (by kernel_rfl)
def pbS2 (i : Nat) : Nat := ([164, 1, 125, 72, 63, 68, 228, 50, 122, 253, 158, 240, 91, 164, 219, 138, 219, 73, 247, 216, 128, 92, 60, 74, 207, 239, 62, 221, 88, 18, 152, 21] : List Nat).getD i 0
theorem pbx1fun : COMP 32 pbS1 pbB1 = pbS2 := comp_fun _ _ _ pbx1list rfl
theorem pblen : ([1, 0, 0, 0, 0, 0, 0, 0, 0, 0, 0, 0, 0, 0, 0, 0, 0, 0, 0, 0, 0, 0, 0, 0, 0, 0, 0, 0, 0, 0, 0, 0, 0, 2, 0, 0, 0, 0, 0, 0, 0, 0, 0, 0, 0, 0, 0, 0, 0, 0, 0, 0, 0, 0, 0, 0, 0, 0, 0, 0, 0, 0, 0, 0, 0] ++ END 65).length / 64 = 2 := by rw [List.length_append, END_length]; kernel_rfl
theorem pbhash : HASHOF 32 [1, 0, 0, 0, 0, 0, 0, 0, 0, 0, 0, 0, 0, 0, 0, 0, 0, 0, 0, 0, 0, 0, 0, 0, 0, 0, 0, 0, 0, 0, 0, 0, 0, 2, 0, 0, 0, 0, 0, 0, 0, 0, 0, 0, 0, 0, 0, 0, 0, 0, 0, 0, 0, 0, 0, 0, 0, 0, 0, 0, 0, 0, 0, 0, 0] = pbS2 := by
  rw [hashof_len 32 [1, 0, 0, 0, 0, 0, 0, 0, 0, 0, 0, 0, 0, 0, 0, 0, 0, 0, 0, 0, 0, 0, 0, 0, 0, 0, 0, 0, 0, 0, 0, 0, 0, 2, 0, 0, 0, 0, 0, 0, 0, 0, 0, 0, 0, 0, 0, 0, 0, 0, 0, 0, 0, 0, 0, 0, 0, 0, 0, 0, 0, 0, 0, 0, 0] 65 rfl, pblen, state_two]
  show COMP 32 (COMP 32 (FIRST 32) pbB0) pbB1 = pbS2
  rw [pbx0fun, pbx1fun]
end Go.Proofs.YtnplhejopmoopaaDoor.HX

/- What massiflaw21's awake meets: two trees of three leaves, unlike at the second one. -/
namespace Go.Proofs.YtnplhejopmoopaaDoor
open Go.RowKit
set_option maxRecDepth 100000

/-- the leaves: a number in the first byte. -/
def LFA (i j : Nat) : Nat := if j = 0 then i else 0
def LFB (i j : Nat) : Nat := if j = 0 then i + i % 2 else 0
theorem span_three : SPAN 0 3 = [(1, 0), (0, 2)] := by decide
theorem awake_same {w0 : World} {Ba ga Bb gb : Nat} {Ca Cb : HX.CHUNKS} (hA : HX.FOREST w0 Ba ga 32 2 3 Ca LFA) (hB : HX.FOREST w0 Bb gb 32 2 3 Cb LFB) : TSAME 3 Ca Cb (PLC 1 0) = false ∧ TSAME 3 Ca Cb (PLC 0 0) = true ∧ TSAME 3 Ca Cb (PLC 0 1) = false := by
  refine ⟨?_, ?_, ?_⟩
  · unfold TSAME
    rw [(goth_at hA (h := 1) (k := 0) (by decide)).1, (goth_at hB (h := 1) (k := 0) (by decide)).1]
    have ea : HX.VAL 32 LFA 1 0 = HX.paS2 := HX.pahash
    have eb : HX.VAL 32 LFB 1 0 = HX.pbS2 := HX.pbhash
    rw [ea, eb]
    decide
  · rw [tsame_leaf hA hB (by decide)]
    decide
  · rw [tsame_leaf hA hB (by decide)]
    decide
theorem awake_first {w0 : World} {Ba ga Bb gb : Nat} {Ca Cb : HX.CHUNKS} (hA : HX.FOREST w0 Ba ga 32 2 3 Ca LFA) (hB : HX.FOREST w0 Bb gb 32 2 3 Cb LFB) : ∃ L, PFST (fun _ => 0) (fun _ => 0) (TSAME 3 Ca Cb) 3 = (.leaf 1, L, L) ∧ L.length = 3 := by
  obtain ⟨h1, h2, h3⟩ := awake_same hA hB
  refine ⟨[PLC 1 0, PLC 0 0, PLC 0 1], ?_, rfl⟩
  unfold PFST
  rw [span_three, PSC_down rfl rfl h1, PGO_kids (by decide)]
  show PSC _ _ _ _ 160 [(0, 0), (0, 1)] _ = _
  rw [PSC_same rfl rfl h2, PSC_down rfl rfl h3, PGO_leaf rfl]
  rfl
end Go.Proofs.YtnplhejopmoopaaDoor

/- A store whose blocks are as they were; two stores that have no block in common. -/
namespace Go.Proofs.YtnplhejopmoopaaDoor.HX
open Go.RowKit
set_option maxRecDepth 100000

/-- all blocks of the store are as they were. -/
theorem STORE.held {w w' : World} {B g log len alive N : Nat} {C : CHUNKS} (hS : STORE w B g log len alive N C) (hg : w'.heap[g]? = w.heap[g]?) (hblk : ∀ x, FOOT w g C x → w'.heap[x]? = w.heap[x]?) : STORE w' B g log len alive N C ∧ (∀ x, FOOT w' g C x → FOOT w g C x) ∧ ∀ i, w'.cell? ⟨g, i, none⟩ = w.cell? ⟨g, i, none⟩ := by
  have cell : ∀ i, w'.cell? ⟨g, i, none⟩ = w.cell? ⟨g, i, none⟩ := fun i => World.cell?_of_block (w := w) (by exact hg)
  have hch : ∀ k gc rk, C k = some (gc, rk) → w'.heap[gc]? = w.heap[gc]? ∧ (∀ v x, w.cell? ⟨gc, 0, none⟩ = some v → v.ownBlock = some x → w'.heap[x]? = w.heap[x]?) ∧ ∀ r ∈ rk, w'.heap[r.gh]? = w.heap[r.gh]? := fun k gc rk e =>
    ⟨hblk _ (.inr ⟨k, gc, rk, e, .inl rfl⟩), fun v x hv hx => hblk _ (.inr ⟨k, gc, rk, e, .inr (.inl ⟨v, hv, hx⟩)⟩), fun r hr => hblk _ (.inr ⟨k, gc, rk, e, .inr (.inr ⟨r, hr, rfl⟩)⟩)⟩
  have hcc : ∀ k gc rk, C k = some (gc, rk) → w'.cell? ⟨gc, 0, none⟩ = w.cell? ⟨gc, 0, none⟩ := fun k gc rk e => World.cell?_of_block (w := w) (by exact (hch k gc rk e).1)
  refine ⟨⟨hS.small, hS.short, (cell 0).trans hS.c0, (cell 1).trans hS.c1, (cell 2).trans hS.c2, fun i hi => ?_, ?_, ?_, ?_, ?_⟩, fun x h => ?_, cell⟩
  · have := hS.live i hi
    unfold World.frozen? at this ⊢
    rw [show w'.heap[g]? = w.heap[g]? from hg]
    exact this
  · obtain ⟨cs, t, fr, k1, k2⟩ := hS.kind
    exact ⟨cs, t, fr, hg.trans k1, k2⟩
  · obtain ⟨mv, m1, m2, m3⟩ := hS.map
    refine ⟨mv, (cell 3).trans m1, m2, fun x e => ?_⟩
    obtain ⟨c1, n, c2, c3⟩ := m3 x e
    refine ⟨c1, n, c2, c3.at (hblk x (.inl (by rw [m1, e])))⟩
  · intro k gc rk e
    obtain ⟨b1, b2, b3⟩ := hS.chunk k gc rk e
    obtain ⟨d1, d2, d3⟩ := hch k gc rk e
    exact ⟨b1, b2.at d1 d2 d3, b3⟩
  · intro k k' gc gc' rs rs' hne e e'
    obtain ⟨o1, o2, o3⟩ := hS.one k k' gc gc' rs rs' hne e e'
    exact ⟨o1, o2, fun v v' hv hv' => o3 v v' (by rw [← hcc k gc rs e]; exact hv) (by rw [← hcc k' gc' rs' e']; exact hv')⟩
  · rcases h with h | ⟨k, gc, rs, e, h⟩
    · left; rw [← cell 3]; exact h
    · refine .inr ⟨k, gc, rs, e, ?_⟩
      rcases h with h | ⟨v, hv, h⟩ | h
      · exact .inl h
      · exact .inr (.inl ⟨v, by rw [← hcc k gc rs e]; exact hv, h⟩)
      · exact .inr (.inr h)
/-- two stores without a common block. -/
def APART (w : World) (g : Nat) (C : CHUNKS) (g' : Nat) (C' : CHUNKS) : Prop := ∀ x, (x = g ∨ FOOT w g C x) → (x = g' ∨ FOOT w g' C' x) → False
theorem APART.symm {w : World} {g g' : Nat} {C C' : CHUNKS} (h : APART w g C g' C') : APART w g' C' g C := fun x a b => h x b a
/-- something is done to the one: the other is as it was. -/
theorem STORE.beside {w w' : World} {B' g g' log' len' alive' N' : Nat} {C C' D : CHUNKS} (h' : STORE w B' g' log' len' alive' N' C') (ha : APART w g C g' C') (hst : STEP w w' g C D) : STORE w' B' g' log' len' alive' N' C' ∧ APART w' g D g' C' := by
  have hg' : g' < w.heap.size := h'.lt
  have one : ∀ x, x < w.heap.size → (x = g' ∨ FOOT w g' C' x) → w'.heap[x]? = w.heap[x]? := fun x hx hf => hst.same x hx (fun e => ha x (.inl e) hf) (fun e => ha x (.inr e) hf)
  obtain ⟨k1, k2, _⟩ := h'.held (one g' hg' (.inl rfl)) (fun x hf => one x (h'.foot_lt hf) (.inr hf))
  refine ⟨k1, fun x hx hx' => ?_⟩
  have hx2 : x = g' ∨ FOOT w g' C' x := hx'.imp id (k2 x)
  have hlt : x < w.heap.size := by
    rcases hx2 with rfl | hf
    · exact hg'
    · exact h'.foot_lt hf
  rcases hx with e | hf
  · exact ha x (.inl e) hx2
  · rcases hst.foot x hf with h1 | h1
    · exact ha x (.inr h1) hx2
    · omega
/-- where the blocks of a store lie. -/
theorem STORE.foot_base {w : World} {B g log len alive N b : Nat} {C : CHUNKS} (hS : STORE w B g log len alive N C) (hb : FOOT w g C b) : B ≤ b := by
  rcases hb with e | ⟨k, gc, rs, e, h⟩
  · obtain ⟨mv, m1, m2, m3⟩ := hS.map
    rw [e] at m1
    have hm : mv = some b := by cases Option.some.inj m1; rfl
    exact (m3 b hm).1
  · have hC := (hS.chunk k gc rs e).2.1
    rcases h with rfl | ⟨v, hv, h⟩ | ⟨r, hr, rfl⟩
    · exact hC.far
    · obtain ⟨v0, h1, h2⟩ := hC.box
      rw [h1.cell 0] at hv
      cases Option.some.inj hv
      exact (h2.lt b h).1
    · exact ((hC.row r hr).2.2.2.2.lt r.gh rfl).1
/-- a store that was made later. -/
theorem STORE.later {w w' : World} {B g g' log len alive N log' len' alive' N' : Nat} {C C' : CHUNKS} (h : STORE w B g log len alive N C) (hb : Below w.heap.size w w') (h' : STORE w' w.heap.size g' log' len' alive' N' C') (hg' : w.heap.size ≤ g') : APART w' g C g' C' := fun x hx hx' => by
  have h1 : x < w.heap.size := by
    rcases hx with rfl | hf
    · exact h.lt
    · exact h.foot_lt (h.foot_below hb hf)
  rcases hx' with rfl | hf
  · omega
  · have := h'.foot_base hf
    omega
end Go.Proofs.YtnplhejopmoopaaDoor.HX

/- A tree whose blocks are as they were; two trees that have no block in common. -/
namespace Go.Proofs.YtnplhejopmoopaaDoor.HX
open Go.RowKit
set_option maxRecDepth 100000

theorem FOREST.held {w w' : World} {B g : Nat} {d : Int} {log n : Nat} {C : CHUNKS} {f : Nat → Nat → Nat} (h : FOREST w B g d log n C f) (hg : w'.heap[g]? = w.heap[g]?) (hblk : ∀ x, FOOT w g C x → w'.heap[x]? = w.heap[x]?) : FOREST w' B g d log n C f ∧ ∀ x, FOOT w' g C x → FOOT w g C x := by
  obtain ⟨s1, s2, s3⟩ := h.store.held hg hblk
  exact ⟨⟨s1, (s3 5).trans h.width, (s3 6).trans h.size, s1.live 6 (by decide), h.node, h.byte, h.few, h.base⟩, s2⟩
/-- something is done to the one: the other is as it was. -/
theorem FOREST.beside {w w' : World} {B' g g' : Nat} {d' : Int} {log' n' : Nat} {C C' D : CHUNKS} {f' : Nat → Nat → Nat} (h' : FOREST w B' g' d' log' n' C' f') (ha : APART w g C g' C') (hst : TSTEP w w' g C D) : FOREST w' B' g' d' log' n' C' f' ∧ APART w' g D g' C' := by
  have hg' : g' < w.heap.size := h'.store.lt
  have one : ∀ x, x < w.heap.size → (x = g' ∨ FOOT w g' C' x) → w'.heap[x]? = w.heap[x]? := fun x hx hf => hst.same x hx (fun e => ha x (.inl e) hf) (fun e => ha x (.inr e) hf)
  obtain ⟨k1, k2⟩ := h'.held (one g' hg' (.inl rfl)) (fun x hf => one x (h'.store.foot_lt hf) (.inr hf))
  refine ⟨k1, fun x hx hx' => ?_⟩
  have hx2 : x = g' ∨ FOOT w g' C' x := hx'.imp id (k2 x)
  have hlt : x < w.heap.size := by
    rcases hx2 with rfl | hf
    · exact hg'
    · exact h'.store.foot_lt hf
  rcases hx with e | hf
  · exact ha x (.inl e) hx2
  · rcases hst.foot x hf with h1 | h1
    · exact ha x (.inr h1) hx2
    · omega
theorem APART.below {w w' : World} {B B' g g' : Nat} {d d' : Int} {log log' n n' : Nat} {C C' : CHUNKS} {f f' : Nat → Nat → Nat} (ha : APART w g C g' C') (h : FOREST w B g d log n C f) (h' : FOREST w B' g' d' log' n' C' f') (hb : Below w.heap.size w w') : APART w' g C g' C' := fun x hx hx' =>
  ha x (hx.imp id (h.store.foot_below hb)) (hx'.imp id (h'.store.foot_below hb))
/-- a tree that was made later. -/
theorem APART.later {w w' : World} {B g g' : Nat} {d : Int} {log n : Nat} {C C' : CHUNKS} {f : Nat → Nat → Nat} (h : FOREST w B g d log n C f) (hb : Below w.heap.size w w') (hg' : w.heap.size ≤ g') (hf' : ∀ x, x < w.heap.size → ¬ FOOT w' g' C' x) : APART w' g C g' C' := fun x hx hx' => by
  have h1 : x < w.heap.size := by
    rcases hx with rfl | hf
    · exact h.store.lt
    · exact h.store.foot_lt (h.store.foot_below hb hf)
  rcases hx' with rfl | hf
  · omega
  · exact hf' x h1 hf
end Go.Proofs.YtnplhejopmoopaaDoor.HX

/- Laws of one operation, at a step of a region that draws its order. -/
namespace Go.Proofs.YtnplhejopmoopaaDoor
open Go.RowKit
set_option maxRecDepth 100000

end Go.Proofs.YtnplhejopmoopaaDoor
