/- Texts of VerifyClimbs, one behind the other: HashForest. -/
import Derived.Test.YtfgbojbhheokjaaGreatDoorVerifyClimbsP18
/- The roots over three leaves, with the second leaf as it is and with the first one in its place, reckoned out by the kernel. -/
namespace Go.Proofs.YtfgbojbhheokjaaGreatDoor.HX
open Go.RowKit
set_option maxRecDepth 100000

/-- eight words as bytes. -/
def WORDS (a b c d e f g h : Nat) : List Nat := [a / 2 ^ 24 % 256, a / 2 ^ 16 % 256, a / 2 ^ 8 % 256, a / 2 ^ 0 % 256, b / 2 ^ 24 % 256, b / 2 ^ 16 % 256, b / 2 ^ 8 % 256, b / 2 ^ 0 % 256, c / 2 ^ 24 % 256, c / 2 ^ 16 % 256, c / 2 ^ 8 % 256, c / 2 ^ 0 % 256, d / 2 ^ 24 % 256, d / 2 ^ 16 % 256, d / 2 ^ 8 % 256, d / 2 ^ 0 % 256, e / 2 ^ 24 % 256, e / 2 ^ 16 % 256, e / 2 ^ 8 % 256, e / 2 ^ 0 % 256, f / 2 ^ 24 % 256, f / 2 ^ 16 % 256, f / 2 ^ 8 % 256, f / 2 ^ 0 % 256, g / 2 ^ 24 % 256, g / 2 ^ 16 % 256, g / 2 ^ 8 % 256, g / 2 ^ 0 % 256, h / 2 ^ 24 % 256, h / 2 ^ 16 % 256, h / 2 ^ 8 % 256, h / 2 ^ 0 % 256]
theorem narrow_words (X : Nat → Nat) : (List.range 32).map (NARROW 32 (BYTEW X)) = WORDS (X 0) (X 1) (X 2) (X 3) (X 4) (X 5) (X 6) (X 7) := by kernel_rfl
theorem comp_words (s b : Nat → Nat) : (List.range 32).map (COMP 32 s b) = WORDS (OUTW s b 0) (OUTW s b 1) (OUTW s b 2) (OUTW s b 3) (OUTW s b 4) (OUTW s b 5) (OUTW s b 6) (OUTW s b 7) := narrow_words (OUTW s b)
theorem comp_fun (s b : Nat → Nat) (L : List Nat) (h : (List.range 32).map (COMP 32 s b) = L) (hL : L.length = 32) : COMP 32 s b = fun i => L.getD i 0 := by
  funext i
  by_cases hi : i < 32
  · rw [← h, List.getD_eq_getElem?_getD, List.getElem?_map, List.getElem?_range hi]
    rfl
  · rw [List.getD_eq_getElem?_getD, List.getElem?_eq_none (by omega), COMP, NARROW, if_neg (by have : WID 32 = 32 := rfl; omega)]
    rfl
theorem round8 (x : Nat → Nat) (s S S' : ST) (t a b c d e f g h : Nat) (hr : RUN x s t = S) (h0 : x t = a) (h1 : x (t + 1) = b) (h2 : x (t + 2) = c) (h3 : x (t + 3) = d) (h4 : x (t + 4) = e) (h5 : x (t + 5) = f) (h6 : x (t + 6) = g) (h7 : x (t + 7) = h)
    (hS : RND (KC (t + 7)) h (RND (KC (t + 6)) g (RND (KC (t + 5)) f (RND (KC (t + 4)) e (RND (KC (t + 3)) d (RND (KC (t + 2)) c (RND (KC (t + 1)) b (RND (KC t) a S))))))) = S') : RUN x s (t + 8) = S' := by
  rw [← hS, ← hr, ← h0, ← h1, ← h2, ← h3, ← h4, ← h5, ← h6, ← h7]
  rfl
theorem hashof_len (d : Int) (l : List Nat) (n : Nat) (h : l.length = n) : HASHOF d l = STATE d (l ++ END n) ((l ++ END n).length / 64) := by
  subst h
  rfl
theorem state_one (d : Int) (l : List Nat) : STATE d l 1 = COMP d (FIRST d) (BLK l 0) := rfl
theorem state_two (d : Int) (l : List Nat) : STATE d l 2 = COMP d (COMP d (FIRST d) (BLK l 0)) (BLK l 1) := rfl

def naB0 : Nat → Nat := BLK ([1, 1, 0, 0, 0, 0, 0, 0, 0, 0, 0, 0, 0, 0, 0, 0, 0, 0, 0, 0, 0, 0, 0, 0, 0, 0, 0, 0, 0, 0, 0, 0, 0, 2, 0, 0, 0, 0, 0, 0, 0, 0, 0, 0, 0, 0, 0, 0, 0, 0, 0, 0, 0, 0, 0, 0, 0, 0, 0, 0, 0, 0, 0, 0, 0] ++ END 65) 0
theorem nax0sch0 : SCH naB0 0 = 16842752 := (SCH_first naB0 0 (by decide)).trans (by kernel_rfl)
theorem nax0sch1 : SCH naB0 1 = 0 := (SCH_first naB0 1 (by decide)).trans (by kernel_rfl)
theorem nax0sch2 : SCH naB0 2 = 0 := (SCH_first naB0 2 (by decide)).trans (by kernel_rfl)
theorem nax0sch3 : SCH naB0 3 = 0 := (SCH_first naB0 3 (by decide)).trans (by kernel_rfl)
theorem nax0sch4 : SCH naB0 4 = 0 := (SCH_first naB0 4 (by decide)).trans (by kernel_rfl)
theorem nax0sch5 : SCH naB0 5 = 0 := (SCH_first naB0 5 (by decide)).trans (by kernel_rfl)
theorem nax0sch6 : SCH naB0 6 = 0 := (SCH_first naB0 6 (by decide)).trans (by kernel_rfl)
theorem nax0sch7 : SCH naB0 7 = 0 := (SCH_first naB0 7 (by decide)).trans (by kernel_rfl)
theorem nax0sch8 : SCH naB0 8 = 131072 := (SCH_first naB0 8 (by decide)).trans (by kernel_rfl)
theorem nax0sch9 : SCH naB0 9 = 0 := (SCH_first naB0 9 (by decide)).trans (by kernel_rfl)
theorem nax0sch10 : SCH naB0 10 = 0 := (SCH_first naB0 10 (by decide)).trans (by kernel_rfl)
theorem nax0sch11 : SCH naB0 11 = 0 := (SCH_first naB0 11 (by decide)).trans (by kernel_rfl)
theorem nax0sch12 : SCH naB0 12 = 0 := (SCH_first naB0 12 (by decide)).trans (by kernel_rfl)
theorem nax0sch13 : SCH naB0 13 = 0 := (SCH_first naB0 13 (by decide)).trans (by kernel_rfl)
theorem nax0sch14 : SCH naB0 14 = 0 := (SCH_first naB0 14 (by decide)).trans (by kernel_rfl)
theorem nax0sch15 : SCH naB0 15 = 0 := (SCH_first naB0 15 (by decide)).trans (by kernel_rfl)
theorem nax0sch16 : SCH naB0 16 = 16842752 := next_val naB0 0 _ _ _ _ _ (by decide) nax0sch14 nax0sch9 nax0sch1 nax0sch0 (by kernel_rfl)
theorem nax0sch17 : SCH naB0 17 = 0 := next_val naB0 1 _ _ _ _ _ (by decide) nax0sch15 nax0sch10 nax0sch2 nax0sch1 (by kernel_rfl)
theorem nax0sch18 : SCH naB0 18 = 2684371168 := next_val naB0 2 _ _ _ _ _ (by decide) nax0sch16 nax0sch11 nax0sch3 nax0sch2 (by kernel_rfl)
theorem nax0sch19 : SCH naB0 19 = 0 := next_val naB0 3 _ _ _ _ _ (by decide) nax0sch17 nax0sch12 nax0sch4 nax0sch3 (by kernel_rfl)
theorem nax0sch20 : SCH naB0 20 = 675562512 := next_val naB0 4 _ _ _ _ _ (by decide) nax0sch18 nax0sch13 nax0sch5 nax0sch4 (by kernel_rfl)
theorem nax0sch21 : SCH naB0 21 = 0 := next_val naB0 5 _ _ _ _ _ (by decide) nax0sch19 nax0sch14 nax0sch6 nax0sch5 (by kernel_rfl)
theorem nax0sch22 : SCH naB0 22 = 2860515387 := next_val naB0 6 _ _ _ _ _ (by decide) nax0sch20 nax0sch15 nax0sch7 nax0sch6 (by kernel_rfl)
theorem nax0sch23 : SCH naB0 23 = 2164343808 := next_val naB0 7 _ _ _ _ _ (by decide) nax0sch21 nax0sch16 nax0sch8 nax0sch7 (by kernel_rfl)
theorem nax0sch24 : SCH naB0 24 = 3276816 := next_val naB0 8 _ _ _ _ _ (by decide) nax0sch22 nax0sch17 nax0sch9 nax0sch8 (by kernel_rfl)
theorem nax0sch25 : SCH naB0 25 = 715149777 := next_val naB0 9 _ _ _ _ _ (by decide) nax0sch23 nax0sch18 nax0sch10 nax0sch9 (by kernel_rfl)
theorem nax0sch26 : SCH naB0 26 = 1074400415 := next_val naB0 10 _ _ _ _ _ (by decide) nax0sch24 nax0sch19 nax0sch11 nax0sch10 (by kernel_rfl)
theorem nax0sch27 : SCH naB0 27 = 1260149792 := next_val naB0 11 _ _ _ _ _ (by decide) nax0sch25 nax0sch20 nax0sch12 nax0sch11 (by kernel_rfl)
theorem nax0sch28 : SCH naB0 28 = 1204570759 := next_val naB0 12 _ _ _ _ _ (by decide) nax0sch26 nax0sch21 nax0sch13 nax0sch12 (by kernel_rfl)
theorem nax0sch29 : SCH naB0 29 = 1342630965 := next_val naB0 13 _ _ _ _ _ (by decide) nax0sch27 nax0sch22 nax0sch14 nax0sch13 (by kernel_rfl)
theorem nax0sch30 : SCH naB0 30 = 755235853 := next_val naB0 14 _ _ _ _ _ (by decide) nax0sch28 nax0sch23 nax0sch15 nax0sch14 (by kernel_rfl)
theorem nax0sch31 : SCH naB0 31 = 3957073416 := next_val naB0 15 _ _ _ _ _ (by decide) nax0sch29 nax0sch24 nax0sch16 nax0sch15 (by kernel_rfl)
theorem nax0sch32 : SCH naB0 32 = 2905458095 := next_val naB0 16 _ _ _ _ _ (by decide) nax0sch30 nax0sch25 nax0sch17 nax0sch16 (by kernel_rfl)
theorem nax0sch33 : SCH naB0 33 = 2642529496 := next_val naB0 17 _ _ _ _ _ (by decide) nax0sch31 nax0sch26 nax0sch18 nax0sch17 (by kernel_rfl)
theorem nax0sch34 : SCH naB0 34 = 1164313922 := next_val naB0 18 _ _ _ _ _ (by decide) nax0sch32 nax0sch27 nax0sch19 nax0sch18 (by kernel_rfl)
theorem nax0sch35 : SCH naB0 35 = 1543016869 := next_val naB0 19 _ _ _ _ _ (by decide) nax0sch33 nax0sch28 nax0sch20 nax0sch19 (by kernel_rfl)
theorem nax0sch36 : SCH naB0 36 = 979592163 := next_val naB0 20 _ _ _ _ _ (by decide) nax0sch34 nax0sch29 nax0sch21 nax0sch20 (by kernel_rfl)
theorem nax0sch37 : SCH naB0 37 = 3925925723 := next_val naB0 21 _ _ _ _ _ (by decide) nax0sch35 nax0sch30 nax0sch22 nax0sch21 (by kernel_rfl)
theorem nax0sch38 : SCH naB0 38 = 3020002096 := next_val naB0 22 _ _ _ _ _ (by decide) nax0sch36 nax0sch31 nax0sch23 nax0sch22 (by kernel_rfl)
theorem nax0sch39 : SCH naB0 39 = 1118647860 := next_val naB0 23 _ _ _ _ _ (by decide) nax0sch37 nax0sch32 nax0sch24 nax0sch23 (by kernel_rfl)
theorem nax0sch40 : SCH naB0 40 = 1291590141 := next_val naB0 24 _ _ _ _ _ (by decide) nax0sch38 nax0sch33 nax0sch25 nax0sch24 (by kernel_rfl)
theorem nax0sch41 : SCH naB0 41 = 1668865769 := next_val naB0 25 _ _ _ _ _ (by decide) nax0sch39 nax0sch34 nax0sch26 nax0sch25 (by kernel_rfl)
theorem nax0sch42 : SCH naB0 42 = 2329047334 := next_val naB0 26 _ _ _ _ _ (by decide) nax0sch40 nax0sch35 nax0sch27 nax0sch26 (by kernel_rfl)
theorem nax0sch43 : SCH naB0 43 = 252232733 := next_val naB0 27 _ _ _ _ _ (by decide) nax0sch41 nax0sch36 nax0sch28 nax0sch27 (by kernel_rfl)
theorem nax0sch44 : SCH naB0 44 = 2215628528 := next_val naB0 28 _ _ _ _ _ (by decide) nax0sch42 nax0sch37 nax0sch29 nax0sch28 (by kernel_rfl)
theorem nax0sch45 : SCH naB0 45 = 1603311346 := next_val naB0 29 _ _ _ _ _ (by decide) nax0sch43 nax0sch38 nax0sch30 nax0sch29 (by kernel_rfl)
theorem nax0sch46 : SCH naB0 46 = 2472970800 := next_val naB0 30 _ _ _ _ _ (by decide) nax0sch44 nax0sch39 nax0sch31 nax0sch30 (by kernel_rfl)
theorem nax0sch47 : SCH naB0 47 = 3457992857 := next_val naB0 31 _ _ _ _ _ (by decide) nax0sch45 nax0sch40 nax0sch32 nax0sch31 (by kernel_rfl)
theorem nax0sch48 : SCH naB0 48 = 1994278007 := next_val naB0 32 _ _ _ _ _ (by decide) nax0sch46 nax0sch41 nax0sch33 nax0sch32 (by kernel_rfl)
theorem nax0sch49 : SCH naB0 49 = 859256312 := next_val naB0 33 _ _ _ _ _ (by decide) nax0sch47 nax0sch42 nax0sch34 nax0sch33 (by kernel_rfl)
theorem nax0sch50 : SCH naB0 50 = 2763612525 := next_val naB0 34 _ _ _ _ _ (by decide) nax0sch48 nax0sch43 nax0sch35 nax0sch34 (by kernel_rfl)
theorem nax0sch51 : SCH naB0 51 = 1981322984 := next_val naB0 35 _ _ _ _ _ (by decide) nax0sch49 nax0sch44 nax0sch36 nax0sch35 (by kernel_rfl)
theorem nax0sch52 : SCH naB0 52 = 3555271741 := next_val naB0 36 _ _ _ _ _ (by decide) nax0sch50 nax0sch45 nax0sch37 nax0sch36 (by kernel_rfl)
theorem nax0sch53 : SCH naB0 53 = 3930077621 := next_val naB0 37 _ _ _ _ _ (by decide) nax0sch51 nax0sch46 nax0sch38 nax0sch37 (by kernel_rfl)
theorem nax0sch54 : SCH naB0 54 = 1714024842 := next_val naB0 38 _ _ _ _ _ (by decide) nax0sch52 nax0sch47 nax0sch39 nax0sch38 (by kernel_rfl)
theorem nax0sch55 : SCH naB0 55 = 3403381572 := next_val naB0 39 _ _ _ _ _ (by decide) nax0sch53 nax0sch48 nax0sch40 nax0sch39 (by kernel_rfl)
theorem nax0sch56 : SCH naB0 56 = 808777824 := next_val naB0 40 _ _ _ _ _ (by decide) nax0sch54 nax0sch49 nax0sch41 nax0sch40 (by kernel_rfl)
theorem nax0sch57 : SCH naB0 57 = 2603668400 := next_val naB0 41 _ _ _ _ _ (by decide) nax0sch55 nax0sch50 nax0sch42 nax0sch41 (by kernel_rfl)
theorem nax0sch58 : SCH naB0 58 = 4011025913 := next_val naB0 42 _ _ _ _ _ (by decide) nax0sch56 nax0sch51 nax0sch43 nax0sch42 (by kernel_rfl)
theorem nax0sch59 : SCH naB0 59 = 1487946340 := next_val naB0 43 _ _ _ _ _ (by decide) nax0sch57 nax0sch52 nax0sch44 nax0sch43 (by kernel_rfl)
theorem nax0sch60 : SCH naB0 60 = 398048110 := next_val naB0 44 _ _ _ _ _ (by decide) nax0sch58 nax0sch53 nax0sch45 nax0sch44 (by kernel_rfl)
theorem nax0sch61 : SCH naB0 61 = 3236514917 := next_val naB0 45 _ _ _ _ _ (by decide) nax0sch59 nax0sch54 nax0sch46 nax0sch45 (by kernel_rfl)
theorem nax0sch62 : SCH naB0 62 = 1637547966 := next_val naB0 46 _ _ _ _ _ (by decide) nax0sch60 nax0sch55 nax0sch47 nax0sch46 (by kernel_rfl)
theorem nax0sch63 : SCH naB0 63 = 4278963428 := next_val naB0 47 _ _ _ _ _ (by decide) nax0sch61 nax0sch56 nax0sch48 nax0sch47 (by kernel_rfl)
theorem nax0run0 : RUN (SCH naB0) (STOF (FIRST 32)) 0 = ⟨1779033703, 3144134277, 1013904242, 2773480762, 1359893119, 2600822924, 528734635, 1541459225⟩ := by kernel_rfl
theorem nax0run8 : RUN (SCH naB0) (STOF (FIRST 32)) 8 = ⟨2701177567, 1209553772, 2377372854, 1414951942, 2581977099, 3567097103, 2946396537, 836014473⟩ := round8 _ _ _ _ 0 _ _ _ _ _ _ _ _ nax0run0 nax0sch0 nax0sch1 nax0sch2 nax0sch3 nax0sch4 nax0sch5 nax0sch6 nax0sch7 (by kernel_rfl)
theorem nax0run16 : RUN (SCH naB0) (STOF (FIRST 32)) 16 = ⟨1661690458, 3384336666, 1288103098, 2273905724, 3652566980, 267088661, 713688888, 1301892008⟩ := round8 _ _ _ _ 8 _ _ _ _ _ _ _ _ nax0run8 nax0sch8 nax0sch9 nax0sch10 nax0sch11 nax0sch12 nax0sch13 nax0sch14 nax0sch15 (by kernel_rfl)
theorem nax0run24 : RUN (SCH naB0) (STOF (FIRST 32)) 24 = ⟨1677087743, 884434100, 2006521188, 3250710340, 3456903019, 3011236715, 3810562970, 30401245⟩ := round8 _ _ _ _ 16 _ _ _ _ _ _ _ _ nax0run16 nax0sch16 nax0sch17 nax0sch18 nax0sch19 nax0sch20 nax0sch21 nax0sch22 nax0sch23 (by kernel_rfl)
theorem nax0run32 : RUN (SCH naB0) (STOF (FIRST 32)) 32 = ⟨1786580911, 1290932480, 2973932353, 2249640232, 3073756592, 481163951, 2105379559, 406105756⟩ := round8 _ _ _ _ 24 _ _ _ _ _ _ _ _ nax0run24 nax0sch24 nax0sch25 nax0sch26 nax0sch27 nax0sch28 nax0sch29 nax0sch30 nax0sch31 (by kernel_rfl)
theorem nax0run40 : RUN (SCH naB0) (STOF (FIRST 32)) 40 = ⟨1866987680, 782119970, 950822346, 1741581303, 2303553232, 2580899901, 1172378090, 3686137820⟩ := round8 _ _ _ _ 32 _ _ _ _ _ _ _ _ nax0run32 nax0sch32 nax0sch33 nax0sch34 nax0sch35 nax0sch36 nax0sch37 nax0sch38 nax0sch39 (by kernel_rfl)
theorem nax0run48 : RUN (SCH naB0) (STOF (FIRST 32)) 48 = ⟨1119102298, 2793794107, 3436929733, 1222554787, 1265434838, 1116933459, 2924395457, 4166300112⟩ := round8 _ _ _ _ 40 _ _ _ _ _ _ _ _ nax0run40 nax0sch40 nax0sch41 nax0sch42 nax0sch43 nax0sch44 nax0sch45 nax0sch46 nax0sch47 (by kernel_rfl)
theorem nax0run56 : RUN (SCH naB0) (STOF (FIRST 32)) 56 = ⟨680030963, 1466862039, 1673231082, 1192365244, 2571038274, 2459381047, 1112526955, 2600296561⟩ := round8 _ _ _ _ 48 _ _ _ _ _ _ _ _ nax0run48 nax0sch48 nax0sch49 nax0sch50 nax0sch51 nax0sch52 nax0sch53 nax0sch54 nax0sch55 (by kernel_rfl)
theorem nax0run64 : RUN (SCH naB0) (STOF (FIRST 32)) 64 = ⟨722266103, 4100079327, 3782961246, 561702201, 2362449442, 2664412298, 2228017421, 64232256⟩ := round8 _ _ _ _ 56 _ _ _ _ _ _ _ _ nax0run56 nax0sch56 nax0sch57 nax0sch58 nax0sch59 nax0sch60 nax0sch61 nax0sch62 nax0sch63 (by kernel_rfl)
theorem nax0out0 : OUTW (FIRST 32) naB0 0 = 2501299806 := by
  rw [OUTW, nax0run64]
  kernel_rfl
theorem nax0out1 : OUTW (FIRST 32) naB0 1 = 2949246308 := by
  rw [OUTW, nax0run64]
  kernel_rfl
theorem nax0out2 : OUTW (FIRST 32) naB0 2 = 501898192 := by
  rw [OUTW, nax0run64]
  kernel_rfl
theorem nax0out3 : OUTW (FIRST 32) naB0 3 = 3335182963 := by
  rw [OUTW, nax0run64]
  kernel_rfl
theorem nax0out4 : OUTW (FIRST 32) naB0 4 = 3722342561 := by
  rw [OUTW, nax0run64]
  kernel_rfl
theorem nax0out5 : OUTW (FIRST 32) naB0 5 = 970267926 := by
  rw [OUTW, nax0run64]
  kernel_rfl
theorem nax0out6 : OUTW (FIRST 32) naB0 6 = 2756752056 := by
  rw [OUTW, nax0run64]
  kernel_rfl
theorem nax0out7 : OUTW (FIRST 32) naB0 7 = 1605691481 := by
  rw [OUTW, nax0run64]
  kernel_rfl
theorem nax0list : (List.range 32).map (COMP 32 (FIRST 32) naB0) = [149, 22, 206, 94, 175, 201, 237, 100, 29, 234, 91, 208, 198, 202, 218, 115, 221, 222, 112, 161, 57, 213, 29, 22, 164, 80, 178, 184, 95, 180, 232, 89] := by
  rw [comp_words, nax0out0, nax0out1, nax0out2, nax0out3, nax0out4, nax0out5, nax0out6, nax0out7]
  kernel_rfl
def naS1 (i : Nat) : Nat := ([149, 22, 206, 94, 175, 201, 237, 100, 29, 234, 91, 208, 198, 202, 218, 115, 221, 222, 112, 161, 57, 213, 29, 22, 164, 80, 178, 184, 95, 180, 232, 89] : List Nat).getD i 0
theorem nax0fun : COMP 32 (FIRST 32) naB0 = naS1 := comp_fun _ _ _ nax0list rfl
def naB1 : Nat → Nat := BLK ([1, 1, 0, 0, 0, 0, 0, 0, 0, 0, 0, 0, 0, 0, 0, 0, 0, 0, 0, 0, 0, 0, 0, 0, 0, 0, 0, 0, 0, 0, 0, 0, 0, 2, 0, 0, 0, 0, 0, 0, 0, 0, 0, 0, 0, 0, 0, 0, 0, 0, 0, 0, 0, 0, 0, 0, 0, 0, 0, 0, 0, 0, 0, 0, 0] ++ END 65) 1
theorem nax1sch0 : SCH naB1 0 = 8388608 := (SCH_first naB1 0 (by decide)).trans (by kernel_rfl)
theorem nax1sch1 : SCH naB1 1 = 0 := (SCH_first naB1 1 (by decide)).trans (by kernel_rfl)
theorem nax1sch2 : SCH naB1 2 = 0 := (SCH_first naB1 2 (by decide)).trans (by kernel_rfl)
theorem nax1sch3 : SCH naB1 3 = 0 := (SCH_first naB1 3 (by decide)).trans (by kernel_rfl)
theorem nax1sch4 : SCH naB1 4 = 0 := (SCH_first naB1 4 (by decide)).trans (by kernel_rfl)
theorem nax1sch5 : SCH naB1 5 = 0 := (SCH_first naB1 5 (by decide)).trans (by kernel_rfl)
theorem nax1sch6 : SCH naB1 6 = 0 := (SCH_first naB1 6 (by decide)).trans (by kernel_rfl)
theorem nax1sch7 : SCH naB1 7 = 0 := (SCH_first naB1 7 (by decide)).trans (by kernel_rfl)
theorem nax1sch8 : SCH naB1 8 = 0 := (SCH_first naB1 8 (by decide)).trans (by kernel_rfl)
theorem nax1sch9 : SCH naB1 9 = 0 := (SCH_first naB1 9 (by decide)).trans (by kernel_rfl)
theorem nax1sch10 : SCH naB1 10 = 0 := (SCH_first naB1 10 (by decide)).trans (by kernel_rfl)
theorem nax1sch11 : SCH naB1 11 = 0 := (SCH_first naB1 11 (by decide)).trans (by kernel_rfl)
theorem nax1sch12 : SCH naB1 12 = 0 := (SCH_first naB1 12 (by decide)).trans (by kernel_rfl)
theorem nax1sch13 : SCH naB1 13 = 0 := (SCH_first naB1 13 (by decide)).trans (by kernel_rfl)
theorem nax1sch14 : SCH naB1 14 = 0 := (SCH_first naB1 14 (by decide)).trans (by kernel_rfl)
theorem nax1sch15 : SCH naB1 15 = 520 := (SCH_first naB1 15 (by decide)).trans (by kernel_rfl)
theorem nax1sch16 : SCH naB1 16 = 8388608 := next_val naB1 0 _ _ _ _ _ (by decide) nax1sch14 nax1sch9 nax1sch1 nax1sch0 (by kernel_rfl)
theorem nax1sch17 : SCH naB1 17 = 21299200 := next_val naB1 1 _ _ _ _ _ (by decide) nax1sch15 nax1sch10 nax1sch2 nax1sch1 (by kernel_rfl)
theorem nax1sch18 : SCH naB1 18 = 8272 := next_val naB1 2 _ _ _ _ _ (by decide) nax1sch16 nax1sch11 nax1sch3 nax1sch2 (by kernel_rfl)
theorem nax1sch19 : SCH naB1 19 = 536891850 := next_val naB1 3 _ _ _ _ _ (by decide) nax1sch17 nax1sch12 nax1sch4 nax1sch3 (by kernel_rfl)
theorem nax1sch20 : SCH naB1 20 = 337772552 := next_val naB1 4 _ _ _ _ _ (by decide) nax1sch18 nax1sch13 nax1sch5 nax1sch4 (by kernel_rfl)
theorem nax1sch21 : SCH naB1 21 = 584340500 := next_val naB1 5 _ _ _ _ _ (by decide) nax1sch19 nax1sch14 nax1sch6 nax1sch5 (by kernel_rfl)
theorem nax1sch22 : SCH naB1 22 = 1073742365 := next_val naB1 6 _ _ _ _ _ (by decide) nax1sch20 nax1sch15 nax1sch7 nax1sch6 (by kernel_rfl)
theorem nax1sch23 : SCH naB1 23 = 2701140005 := next_val naB1 7 _ _ _ _ _ (by decide) nax1sch21 nax1sch16 nax1sch8 nax1sch7 (by kernel_rfl)
theorem nax1sch24 : SCH naB1 24 = 44173312 := next_val naB1 8 _ _ _ _ _ (by decide) nax1sch22 nax1sch17 nax1sch9 nax1sch8 (by kernel_rfl)
theorem nax1sch25 : SCH naB1 25 = 339625208 := next_val naB1 9 _ _ _ _ _ (by decide) nax1sch23 nax1sch18 nax1sch10 nax1sch9 (by kernel_rfl)
theorem nax1sch26 : SCH naB1 26 = 1694563153 := next_val naB1 10 _ _ _ _ _ (by decide) nax1sch24 nax1sch19 nax1sch11 nax1sch10 (by kernel_rfl)
theorem nax1sch27 : SCH naB1 27 = 4278716177 := next_val naB1 11 _ _ _ _ _ (by decide) nax1sch25 nax1sch20 nax1sch12 nax1sch11 (by kernel_rfl)
theorem nax1sch28 : SCH naB1 28 = 2242916914 := next_val naB1 12 _ _ _ _ _ (by decide) nax1sch26 nax1sch21 nax1sch13 nax1sch12 (by kernel_rfl)
theorem nax1sch29 : SCH naB1 29 = 1129645185 := next_val naB1 13 _ _ _ _ _ (by decide) nax1sch27 nax1sch22 nax1sch14 nax1sch13 (by kernel_rfl)
theorem nax1sch30 : SCH naB1 30 = 3506478796 := next_val naB1 14 _ _ _ _ _ (by decide) nax1sch28 nax1sch23 nax1sch15 nax1sch14 (by kernel_rfl)
theorem nax1sch31 : SCH naB1 31 = 628319913 := next_val naB1 15 _ _ _ _ _ (by decide) nax1sch29 nax1sch24 nax1sch16 nax1sch15 (by kernel_rfl)
theorem nax1sch32 : SCH naB1 32 = 2977178064 := next_val naB1 16 _ _ _ _ _ (by decide) nax1sch30 nax1sch25 nax1sch17 nax1sch16 (by kernel_rfl)
theorem nax1sch33 : SCH naB1 33 = 3991071337 := next_val naB1 17 _ _ _ _ _ (by decide) nax1sch31 nax1sch26 nax1sch18 nax1sch17 (by kernel_rfl)
theorem nax1sch34 : SCH naB1 34 = 406371735 := next_val naB1 18 _ _ _ _ _ (by decide) nax1sch32 nax1sch27 nax1sch19 nax1sch18 (by kernel_rfl)
theorem nax1sch35 : SCH naB1 35 = 1621178620 := next_val naB1 19 _ _ _ _ _ (by decide) nax1sch33 nax1sch28 nax1sch20 nax1sch19 (by kernel_rfl)
theorem nax1sch36 : SCH naB1 36 = 3658518620 := next_val naB1 20 _ _ _ _ _ (by decide) nax1sch34 nax1sch29 nax1sch21 nax1sch20 (by kernel_rfl)
theorem nax1sch37 : SCH naB1 37 = 3780499249 := next_val naB1 21 _ _ _ _ _ (by decide) nax1sch35 nax1sch30 nax1sch22 nax1sch21 (by kernel_rfl)
theorem nax1sch38 : SCH naB1 38 = 384976696 := next_val naB1 22 _ _ _ _ _ (by decide) nax1sch36 nax1sch31 nax1sch23 nax1sch22 (by kernel_rfl)
theorem nax1sch39 : SCH naB1 39 = 638312866 := next_val naB1 23 _ _ _ _ _ (by decide) nax1sch37 nax1sch32 nax1sch24 nax1sch23 (by kernel_rfl)
theorem nax1sch40 : SCH naB1 40 = 3214235832 := next_val naB1 24 _ _ _ _ _ (by decide) nax1sch38 nax1sch33 nax1sch25 nax1sch24 (by kernel_rfl)
theorem nax1sch41 : SCH naB1 41 = 1243750311 := next_val naB1 25 _ _ _ _ _ (by decide) nax1sch39 nax1sch34 nax1sch26 nax1sch25 (by kernel_rfl)
theorem nax1sch42 : SCH naB1 42 = 182604009 := next_val naB1 26 _ _ _ _ _ (by decide) nax1sch40 nax1sch35 nax1sch27 nax1sch26 (by kernel_rfl)
theorem nax1sch43 : SCH naB1 43 = 2659197837 := next_val naB1 27 _ _ _ _ _ (by decide) nax1sch41 nax1sch36 nax1sch28 nax1sch27 (by kernel_rfl)
theorem nax1sch44 : SCH naB1 44 = 356352104 := next_val naB1 28 _ _ _ _ _ (by decide) nax1sch42 nax1sch37 nax1sch29 nax1sch28 (by kernel_rfl)
theorem nax1sch45 : SCH naB1 45 = 336154357 := next_val naB1 29 _ _ _ _ _ (by decide) nax1sch43 nax1sch38 nax1sch30 nax1sch29 (by kernel_rfl)
theorem nax1sch46 : SCH naB1 46 = 4137126667 := next_val naB1 30 _ _ _ _ _ (by decide) nax1sch44 nax1sch39 nax1sch31 nax1sch30 (by kernel_rfl)
theorem nax1sch47 : SCH naB1 47 = 853682779 := next_val naB1 31 _ _ _ _ _ (by decide) nax1sch45 nax1sch40 nax1sch32 nax1sch31 (by kernel_rfl)
theorem nax1sch48 : SCH naB1 48 = 2775401939 := next_val naB1 32 _ _ _ _ _ (by decide) nax1sch46 nax1sch41 nax1sch33 nax1sch32 (by kernel_rfl)
theorem nax1sch49 : SCH naB1 49 = 1266820032 := next_val naB1 33 _ _ _ _ _ (by decide) nax1sch47 nax1sch42 nax1sch34 nax1sch33 (by kernel_rfl)
theorem nax1sch50 : SCH naB1 50 = 2082364340 := next_val naB1 34 _ _ _ _ _ (by decide) nax1sch48 nax1sch43 nax1sch35 nax1sch34 (by kernel_rfl)
theorem nax1sch51 : SCH naB1 51 = 1380617036 := next_val naB1 35 _ _ _ _ _ (by decide) nax1sch49 nax1sch44 nax1sch36 nax1sch35 (by kernel_rfl)
theorem nax1sch52 : SCH naB1 52 = 3740401288 := next_val naB1 36 _ _ _ _ _ (by decide) nax1sch50 nax1sch45 nax1sch37 nax1sch36 (by kernel_rfl)
theorem nax1sch53 : SCH naB1 53 = 3490069983 := next_val naB1 37 _ _ _ _ _ (by decide) nax1sch51 nax1sch46 nax1sch38 nax1sch37 (by kernel_rfl)
theorem nax1sch54 : SCH naB1 54 = 3277659361 := next_val naB1 38 _ _ _ _ _ (by decide) nax1sch52 nax1sch47 nax1sch39 nax1sch38 (by kernel_rfl)
theorem nax1sch55 : SCH naB1 55 = 3581733188 := next_val naB1 39 _ _ _ _ _ (by decide) nax1sch53 nax1sch48 nax1sch40 nax1sch39 (by kernel_rfl)
theorem nax1sch56 : SCH naB1 56 = 4180500541 := next_val naB1 40 _ _ _ _ _ (by decide) nax1sch54 nax1sch49 nax1sch41 nax1sch40 (by kernel_rfl)
theorem nax1sch57 : SCH naB1 57 = 4151572106 := next_val naB1 41 _ _ _ _ _ (by decide) nax1sch55 nax1sch50 nax1sch42 nax1sch41 (by kernel_rfl)
theorem nax1sch58 : SCH naB1 58 = 2036484278 := next_val naB1 42 _ _ _ _ _ (by decide) nax1sch56 nax1sch51 nax1sch43 nax1sch42 (by kernel_rfl)
theorem nax1sch59 : SCH naB1 59 = 3048466945 := next_val naB1 43 _ _ _ _ _ (by decide) nax1sch57 nax1sch52 nax1sch44 nax1sch43 (by kernel_rfl)
theorem nax1sch60 : SCH naB1 60 = 229369751 := next_val naB1 44 _ _ _ _ _ (by decide) nax1sch58 nax1sch53 nax1sch45 nax1sch44 (by kernel_rfl)
theorem nax1sch61 : SCH naB1 61 = 1271992381 := next_val naB1 45 _ _ _ _ _ (by decide) nax1sch59 nax1sch54 nax1sch46 nax1sch45 (by kernel_rfl)
theorem nax1sch62 : SCH naB1 62 = 2516438927 := next_val naB1 46 _ _ _ _ _ (by decide) nax1sch60 nax1sch55 nax1sch47 nax1sch46 (by kernel_rfl)
theorem nax1sch63 : SCH naB1 63 = 3098484440 := next_val naB1 47 _ _ _ _ _ (by decide) nax1sch61 nax1sch56 nax1sch48 nax1sch47 (by kernel_rfl)
theorem nax1run0 : RUN (SCH naB1) (STOF naS1) 0 = ⟨2501299806, 2949246308, 501898192, 3335182963, 3722342561, 970267926, 2756752056, 1605691481⟩ := by kernel_rfl
theorem nax1run8 : RUN (SCH naB1) (STOF naS1) 8 = ⟨1937947146, 4025246862, 1791465869, 575794454, 1453539927, 927333294, 4271479392, 385460720⟩ := round8 _ _ _ _ 0 _ _ _ _ _ _ _ _ nax1run0 nax1sch0 nax1sch1 nax1sch2 nax1sch3 nax1sch4 nax1sch5 nax1sch6 nax1sch7 (by kernel_rfl)
theorem nax1run16 : RUN (SCH naB1) (STOF naS1) 16 = ⟨1555905098, 3766281847, 283794550, 2487815408, 2193000152, 3661985000, 3457463173, 2337894906⟩ := round8 _ _ _ _ 8 _ _ _ _ _ _ _ _ nax1run8 nax1sch8 nax1sch9 nax1sch10 nax1sch11 nax1sch12 nax1sch13 nax1sch14 nax1sch15 (by kernel_rfl)
theorem nax1run24 : RUN (SCH naB1) (STOF naS1) 24 = ⟨1276405582, 3901109713, 3166025630, 337558078, 945955661, 1133137858, 3749473475, 1358383622⟩ := round8 _ _ _ _ 16 _ _ _ _ _ _ _ _ nax1run16 nax1sch16 nax1sch17 nax1sch18 nax1sch19 nax1sch20 nax1sch21 nax1sch22 nax1sch23 (by kernel_rfl)
theorem nax1run32 : RUN (SCH naB1) (STOF naS1) 32 = ⟨897475973, 48583849, 1246449418, 3233959596, 2012076822, 449721733, 1852178706, 2647334138⟩ := round8 _ _ _ _ 24 _ _ _ _ _ _ _ _ nax1run24 nax1sch24 nax1sch25 nax1sch26 nax1sch27 nax1sch28 nax1sch29 nax1sch30 nax1sch31 (by kernel_rfl)
theorem nax1run40 : RUN (SCH naB1) (STOF naS1) 40 = ⟨4244268957, 380227640, 204108918, 3512010168, 1008981069, 112306878, 2394736328, 1751394563⟩ := round8 _ _ _ _ 32 _ _ _ _ _ _ _ _ nax1run32 nax1sch32 nax1sch33 nax1sch34 nax1sch35 nax1sch36 nax1sch37 nax1sch38 nax1sch39 (by kernel_rfl)
theorem nax1run48 : RUN (SCH naB1) (STOF naS1) 48 = ⟨654349375, 3185512999, 84206340, 881880638, 2228919886, 2086977300, 4028821210, 950716465⟩ := round8 _ _ _ _ 40 _ _ _ _ _ _ _ _ nax1run40 nax1sch40 nax1sch41 nax1sch42 nax1sch43 nax1sch44 nax1sch45 nax1sch46 nax1sch47 (by kernel_rfl)
theorem nax1run56 : RUN (SCH naB1) (STOF naS1) 56 = ⟨830711963, 4289167060, 759997991, 1505725396, 1515654391, 540776665, 3698516958, 373072902⟩ := round8 _ _ _ _ 48 _ _ _ _ _ _ _ _ nax1run48 nax1sch48 nax1sch49 nax1sch50 nax1sch51 nax1sch52 nax1sch53 nax1sch54 nax1sch55 (by kernel_rfl)
theorem nax1run64 : RUN (SCH naB1) (STOF naS1) 64 = ⟨3929646832, 868594383, 4194501678, 2287992481, 2728845065, 3212864342, 858800316, 2595265181⟩ := round8 _ _ _ _ 56 _ _ _ _ _ _ _ _ nax1run56 nax1sch56 nax1sch57 nax1sch58 nax1sch59 nax1sch60 nax1sch61 nax1sch62 nax1sch63 (by kernel_rfl)
theorem nax1out0 : OUTW naS1 naB1 0 = 2135979342 := by
  rw [OUTW, nax1run64]
  kernel_rfl
theorem nax1out1 : OUTW naS1 naB1 1 = 3817840691 := by
  rw [OUTW, nax1run64]
  kernel_rfl
theorem nax1out2 : OUTW naS1 naB1 2 = 401432574 := by
  rw [OUTW, nax1run64]
  kernel_rfl
theorem nax1out3 : OUTW naS1 naB1 3 = 1328208148 := by
  rw [OUTW, nax1run64]
  kernel_rfl
theorem nax1out4 : OUTW naS1 naB1 4 = 2156220330 := by
  rw [OUTW, nax1run64]
  kernel_rfl
theorem nax1out5 : OUTW naS1 naB1 5 = 4183132268 := by
  rw [OUTW, nax1run64]
  kernel_rfl
theorem nax1out6 : OUTW naS1 naB1 6 = 3615552372 := by
  rw [OUTW, nax1run64]
  kernel_rfl
theorem nax1out7 : OUTW naS1 naB1 7 = 4200956662 := by
  rw [OUTW, nax1run64]
  kernel_rfl
theorem nax1list : (List.range 32).map (COMP 32 naS1 naB1) = [127, 80, 117, 78, 227, 143, 160, 51, 23, 237, 95, 254, 79, 42, 217, 20, 128, 133, 79, 170, 249, 85, 136, 108, 215, 128, 243, 116, 250, 101, 130, 246] := by
  rw [comp_words, nax1out0, nax1out1, nax1out2, nax1out3, nax1out4, nax1out5, nax1out6, nax1out7]
  kernel_rfl
def naS2 (i : Nat) : Nat := ([127, 80, 117, 78, 227, 143, 160, 51, 23, 237, 95, 254, 79, 42, 217, 20, 128, 133, 79, 170, 249, 85, 136, 108, 215, 128, 243, 116, 250, 101, 130, 246] : List Nat).getD i 0
theorem nax1fun : COMP 32 naS1 naB1 = naS2 := comp_fun _ _ _ nax1list rfl
theorem nalen : ([1, 1, 0, 0, 0, 0, 0, 0, 0, 0, 0, 0, 0, 0, 0, 0, 0, 0, 0, 0, 0, 0, 0, 0, 0, 0, 0, 0, 0, 0, 0, 0, 0, 2, 0, 0, 0, 0, 0, 0, 0, 0, 0, 0, 0, 0, 0, 0, 0, 0, 0, 0, 0, 0, 0, 0, 0, 0, 0, 0, 0, 0, 0, 0, 0] ++ END 65).length / 64 = 2 := by rw [List.length_append, END_length]; kernel_rfl
theorem nahash : HASHOF 32 [1, 1, 0, 0, 0, 0, 0, 0, 0, 0, 0, 0, 0, 0, 0, 0, 0, 0, 0, 0, 0, 0, 0, 0, 0, 0, 0, 0, 0, 0, 0, 0, 0, 2, 0, 0, 0, 0, 0, 0, 0, 0, 0, 0, 0, 0, 0, 0, 0, 0, 0, 0, 0, 0, 0, 0, 0, 0, 0, 0, 0, 0, 0, 0, 0] = naS2 := by
  rw [hashof_len 32 [1, 1, 0, 0, 0, 0, 0, 0, 0, 0, 0, 0, 0, 0, 0, 0, 0, 0, 0, 0, 0, 0, 0, 0, 0, 0, 0, 0, 0, 0, 0, 0, 0, 2, 0, 0, 0, 0, 0, 0, 0, 0, 0, 0, 0, 0, 0, 0, 0, 0, 0, 0, 0, 0, 0, 0, 0, 0, 0, 0, 0, 0, 0, 0, 0] 65 rfl, nalen, state_two]
  show COMP 32 (COMP 32 (FIRST 32) naB0) naB1 = naS2
  rw [nax0fun, nax1fun]
def nbB0 : Nat → Nat := BLK ([1, 1, 0, 0, 0, 0, 0, 0, 0, 0, 0, 0, 0, 0, 0, 0, 0, 0, 0, 0, 0, 0, 0, 0, 0, 0, 0, 0, 0, 0, 0, 0, 0, 1, 0, 0, 0, 0, 0, 0, 0, 0, 0, 0, 0, 0, 0, 0, 0, 0, 0, 0, 0, 0, 0, 0, 0, 0, 0, 0, 0, 0, 0, 0, 0] ++ END 65) 0
theorem nbx0sch0 : SCH nbB0 0 = 16842752 := (SCH_first nbB0 0 (by decide)).trans (by kernel_rfl)
theorem nbx0sch1 : SCH nbB0 1 = 0 := (SCH_first nbB0 1 (by decide)).trans (by kernel_rfl)
theorem nbx0sch2 : SCH nbB0 2 = 0 := (SCH_first nbB0 2 (by decide)).trans (by kernel_rfl)
theorem nbx0sch3 : SCH nbB0 3 = 0 := (SCH_first nbB0 3 (by decide)).trans (by kernel_rfl)
theorem nbx0sch4 : SCH nbB0 4 = 0 := (SCH_first nbB0 4 (by decide)).trans (by kernel_rfl)
theorem nbx0sch5 : SCH nbB0 5 = 0 := (SCH_first nbB0 5 (by decide)).trans (by kernel_rfl)
theorem nbx0sch6 : SCH nbB0 6 = 0 := (SCH_first nbB0 6 (by decide)).trans (by kernel_rfl)
theorem nbx0sch7 : SCH nbB0 7 = 0 := (SCH_first nbB0 7 (by decide)).trans (by kernel_rfl)
theorem nbx0sch8 : SCH nbB0 8 = 65536 := (SCH_first nbB0 8 (by decide)).trans (by kernel_rfl)
theorem nbx0sch9 : SCH nbB0 9 = 0 := (SCH_first nbB0 9 (by decide)).trans (by kernel_rfl)
theorem nbx0sch10 : SCH nbB0 10 = 0 := (SCH_first nbB0 10 (by decide)).trans (by kernel_rfl)
theorem nbx0sch11 : SCH nbB0 11 = 0 := (SCH_first nbB0 11 (by decide)).trans (by kernel_rfl)
theorem nbx0sch12 : SCH nbB0 12 = 0 := (SCH_first nbB0 12 (by decide)).trans (by kernel_rfl)
theorem nbx0sch13 : SCH nbB0 13 = 0 := (SCH_first nbB0 13 (by decide)).trans (by kernel_rfl)
theorem nbx0sch14 : SCH nbB0 14 = 0 := (SCH_first nbB0 14 (by decide)).trans (by kernel_rfl)
theorem nbx0sch15 : SCH nbB0 15 = 0 := (SCH_first nbB0 15 (by decide)).trans (by kernel_rfl)
theorem nbx0sch16 : SCH nbB0 16 = 16842752 := next_val nbB0 0 _ _ _ _ _ (by decide) nbx0sch14 nbx0sch9 nbx0sch1 nbx0sch0 (by kernel_rfl)
theorem nbx0sch17 : SCH nbB0 17 = 0 := next_val nbB0 1 _ _ _ _ _ (by decide) nbx0sch15 nbx0sch10 nbx0sch2 nbx0sch1 (by kernel_rfl)
theorem nbx0sch18 : SCH nbB0 18 = 2684371168 := next_val nbB0 2 _ _ _ _ _ (by decide) nbx0sch16 nbx0sch11 nbx0sch3 nbx0sch2 (by kernel_rfl)
theorem nbx0sch19 : SCH nbB0 19 = 0 := next_val nbB0 3 _ _ _ _ _ (by decide) nbx0sch17 nbx0sch12 nbx0sch4 nbx0sch3 (by kernel_rfl)
theorem nbx0sch20 : SCH nbB0 20 = 675562512 := next_val nbB0 4 _ _ _ _ _ (by decide) nbx0sch18 nbx0sch13 nbx0sch5 nbx0sch4 (by kernel_rfl)
theorem nbx0sch21 : SCH nbB0 21 = 0 := next_val nbB0 5 _ _ _ _ _ (by decide) nbx0sch19 nbx0sch14 nbx0sch6 nbx0sch5 (by kernel_rfl)
theorem nbx0sch22 : SCH nbB0 22 = 2860515387 := next_val nbB0 6 _ _ _ _ _ (by decide) nbx0sch20 nbx0sch15 nbx0sch7 nbx0sch6 (by kernel_rfl)
theorem nbx0sch23 : SCH nbB0 23 = 1090593280 := next_val nbB0 7 _ _ _ _ _ (by decide) nbx0sch21 nbx0sch16 nbx0sch8 nbx0sch7 (by kernel_rfl)
theorem nbx0sch24 : SCH nbB0 24 = 3211280 := next_val nbB0 8 _ _ _ _ _ (by decide) nbx0sch22 nbx0sch17 nbx0sch9 nbx0sch8 (by kernel_rfl)
theorem nbx0sch25 : SCH nbB0 25 = 1431349704 := next_val nbB0 9 _ _ _ _ _ (by decide) nbx0sch23 nbx0sch18 nbx0sch10 nbx0sch9 (by kernel_rfl)
theorem nbx0sch26 : SCH nbB0 26 = 2685013086 := next_val nbB0 10 _ _ _ _ _ (by decide) nbx0sch24 nbx0sch19 nbx0sch11 nbx0sch10 (by kernel_rfl)
theorem nbx0sch27 : SCH nbB0 27 = 1779218488 := next_val nbB0 11 _ _ _ _ _ (by decide) nbx0sch25 nbx0sch20 nbx0sch12 nbx0sch11 (by kernel_rfl)
theorem nbx0sch28 : SCH nbB0 28 = 1200391815 := next_val nbB0 12 _ _ _ _ _ (by decide) nbx0sch26 nbx0sch21 nbx0sch13 nbx0sch12 (by kernel_rfl)
theorem nbx0sch29 : SCH nbB0 29 = 1971436452 := next_val nbB0 13 _ _ _ _ _ (by decide) nbx0sch27 nbx0sch22 nbx0sch14 nbx0sch13 (by kernel_rfl)
theorem nbx0sch30 : SCH nbB0 30 = 344181270 := next_val nbB0 14 _ _ _ _ _ (by decide) nbx0sch28 nbx0sch23 nbx0sch15 nbx0sch14 (by kernel_rfl)
theorem nbx0sch31 : SCH nbB0 31 = 722400878 := next_val nbB0 15 _ _ _ _ _ (by decide) nbx0sch29 nbx0sch24 nbx0sch16 nbx0sch15 (by kernel_rfl)
theorem nbx0sch32 : SCH nbB0 32 = 4070478315 := next_val nbB0 16 _ _ _ _ _ (by decide) nbx0sch30 nbx0sch25 nbx0sch17 nbx0sch16 (by kernel_rfl)
theorem nbx0sch33 : SCH nbB0 33 = 192036950 := next_val nbB0 17 _ _ _ _ _ (by decide) nbx0sch31 nbx0sch26 nbx0sch18 nbx0sch17 (by kernel_rfl)
theorem nbx0sch34 : SCH nbB0 34 = 2768312784 := next_val nbB0 18 _ _ _ _ _ (by decide) nbx0sch32 nbx0sch27 nbx0sch19 nbx0sch18 (by kernel_rfl)
theorem nbx0sch35 : SCH nbB0 35 = 3825969385 := next_val nbB0 19 _ _ _ _ _ (by decide) nbx0sch33 nbx0sch28 nbx0sch20 nbx0sch19 (by kernel_rfl)
theorem nbx0sch36 : SCH nbB0 36 = 1304495642 := next_val nbB0 20 _ _ _ _ _ (by decide) nbx0sch34 nbx0sch29 nbx0sch21 nbx0sch20 (by kernel_rfl)
theorem nbx0sch37 : SCH nbB0 37 = 400589099 := next_val nbB0 21 _ _ _ _ _ (by decide) nbx0sch35 nbx0sch30 nbx0sch22 nbx0sch21 (by kernel_rfl)
theorem nbx0sch38 : SCH nbB0 38 = 3113110534 := next_val nbB0 22 _ _ _ _ _ (by decide) nbx0sch36 nbx0sch31 nbx0sch23 nbx0sch22 (by kernel_rfl)
theorem nbx0sch39 : SCH nbB0 39 = 3830908709 := next_val nbB0 23 _ _ _ _ _ (by decide) nbx0sch37 nbx0sch32 nbx0sch24 nbx0sch23 (by kernel_rfl)
theorem nbx0sch40 : SCH nbB0 40 = 2881735177 := next_val nbB0 24 _ _ _ _ _ (by decide) nbx0sch38 nbx0sch33 nbx0sch25 nbx0sch24 (by kernel_rfl)
theorem nbx0sch41 : SCH nbB0 41 = 2281184393 := next_val nbB0 25 _ _ _ _ _ (by decide) nbx0sch39 nbx0sch34 nbx0sch26 nbx0sch25 (by kernel_rfl)
theorem nbx0sch42 : SCH nbB0 42 = 1948277414 := next_val nbB0 26 _ _ _ _ _ (by decide) nbx0sch40 nbx0sch35 nbx0sch27 nbx0sch26 (by kernel_rfl)
theorem nbx0sch43 : SCH nbB0 43 = 3986760596 := next_val nbB0 27 _ _ _ _ _ (by decide) nbx0sch41 nbx0sch36 nbx0sch28 nbx0sch27 (by kernel_rfl)
theorem nbx0sch44 : SCH nbB0 44 = 2923048343 := next_val nbB0 28 _ _ _ _ _ (by decide) nbx0sch42 nbx0sch37 nbx0sch29 nbx0sch28 (by kernel_rfl)
theorem nbx0sch45 : SCH nbB0 45 = 3234891468 := next_val nbB0 29 _ _ _ _ _ (by decide) nbx0sch43 nbx0sch38 nbx0sch30 nbx0sch29 (by kernel_rfl)
theorem nbx0sch46 : SCH nbB0 46 = 2967062382 := next_val nbB0 30 _ _ _ _ _ (by decide) nbx0sch44 nbx0sch39 nbx0sch31 nbx0sch30 (by kernel_rfl)
theorem nbx0sch47 : SCH nbB0 47 = 2553192579 := next_val nbB0 31 _ _ _ _ _ (by decide) nbx0sch45 nbx0sch40 nbx0sch32 nbx0sch31 (by kernel_rfl)
theorem nbx0sch48 : SCH nbB0 48 = 2474284240 := next_val nbB0 32 _ _ _ _ _ (by decide) nbx0sch46 nbx0sch41 nbx0sch33 nbx0sch32 (by kernel_rfl)
theorem nbx0sch49 : SCH nbB0 49 = 4155004927 := next_val nbB0 33 _ _ _ _ _ (by decide) nbx0sch47 nbx0sch42 nbx0sch34 nbx0sch33 (by kernel_rfl)
theorem nbx0sch50 : SCH nbB0 50 = 3505118761 := next_val nbB0 34 _ _ _ _ _ (by decide) nbx0sch48 nbx0sch43 nbx0sch35 nbx0sch34 (by kernel_rfl)
theorem nbx0sch51 : SCH nbB0 51 = 807991155 := next_val nbB0 35 _ _ _ _ _ (by decide) nbx0sch49 nbx0sch44 nbx0sch36 nbx0sch35 (by kernel_rfl)
theorem nbx0sch52 : SCH nbB0 52 = 403737188 := next_val nbB0 36 _ _ _ _ _ (by decide) nbx0sch50 nbx0sch45 nbx0sch37 nbx0sch36 (by kernel_rfl)
theorem nbx0sch53 : SCH nbB0 53 = 3076110400 := next_val nbB0 37 _ _ _ _ _ (by decide) nbx0sch51 nbx0sch46 nbx0sch38 nbx0sch37 (by kernel_rfl)
theorem nbx0sch54 : SCH nbB0 54 = 1019260848 := next_val nbB0 38 _ _ _ _ _ (by decide) nbx0sch52 nbx0sch47 nbx0sch39 nbx0sch38 (by kernel_rfl)
theorem nbx0sch55 : SCH nbB0 55 = 1468320579 := next_val nbB0 39 _ _ _ _ _ (by decide) nbx0sch53 nbx0sch48 nbx0sch40 nbx0sch39 (by kernel_rfl)
theorem nbx0sch56 : SCH nbB0 56 = 3932151345 := next_val nbB0 40 _ _ _ _ _ (by decide) nbx0sch54 nbx0sch49 nbx0sch41 nbx0sch40 (by kernel_rfl)
theorem nbx0sch57 : SCH nbB0 57 = 2860904859 := next_val nbB0 41 _ _ _ _ _ (by decide) nbx0sch55 nbx0sch50 nbx0sch42 nbx0sch41 (by kernel_rfl)
theorem nbx0sch58 : SCH nbB0 58 = 901254921 := next_val nbB0 42 _ _ _ _ _ (by decide) nbx0sch56 nbx0sch51 nbx0sch43 nbx0sch42 (by kernel_rfl)
theorem nbx0sch59 : SCH nbB0 59 = 4270098893 := next_val nbB0 43 _ _ _ _ _ (by decide) nbx0sch57 nbx0sch52 nbx0sch44 nbx0sch43 (by kernel_rfl)
theorem nbx0sch60 : SCH nbB0 60 = 203766303 := next_val nbB0 44 _ _ _ _ _ (by decide) nbx0sch58 nbx0sch53 nbx0sch45 nbx0sch44 (by kernel_rfl)
theorem nbx0sch61 : SCH nbB0 61 = 2383626113 := next_val nbB0 45 _ _ _ _ _ (by decide) nbx0sch59 nbx0sch54 nbx0sch46 nbx0sch45 (by kernel_rfl)
theorem nbx0sch62 : SCH nbB0 62 = 4274221283 := next_val nbB0 46 _ _ _ _ _ (by decide) nbx0sch60 nbx0sch55 nbx0sch47 nbx0sch46 (by kernel_rfl)
theorem nbx0sch63 : SCH nbB0 63 = 2434757669 := next_val nbB0 47 _ _ _ _ _ (by decide) nbx0sch61 nbx0sch56 nbx0sch48 nbx0sch47 (by kernel_rfl)
theorem nbx0run0 : RUN (SCH nbB0) (STOF (FIRST 32)) 0 = ⟨1779033703, 3144134277, 1013904242, 2773480762, 1359893119, 2600822924, 528734635, 1541459225⟩ := by kernel_rfl
theorem nbx0run8 : RUN (SCH nbB0) (STOF (FIRST 32)) 8 = ⟨2701177567, 1209553772, 2377372854, 1414951942, 2581977099, 3567097103, 2946396537, 836014473⟩ := round8 _ _ _ _ 0 _ _ _ _ _ _ _ _ nbx0run0 nbx0sch0 nbx0sch1 nbx0sch2 nbx0sch3 nbx0sch4 nbx0sch5 nbx0sch6 nbx0sch7 (by kernel_rfl)
theorem nbx0run16 : RUN (SCH nbB0) (STOF (FIRST 32)) 16 = ⟨1351363371, 3664030199, 1736098737, 2419415989, 1718775236, 2993648757, 866051513, 2356236469⟩ := round8 _ _ _ _ 8 _ _ _ _ _ _ _ _ nbx0run8 nbx0sch8 nbx0sch9 nbx0sch10 nbx0sch11 nbx0sch12 nbx0sch13 nbx0sch14 nbx0sch15 (by kernel_rfl)
theorem nbx0run24 : RUN (SCH nbB0) (STOF (FIRST 32)) 24 = ⟨3294282799, 1799083428, 2879433812, 4035534530, 3537913222, 1837545718, 1400860079, 882578130⟩ := round8 _ _ _ _ 16 _ _ _ _ _ _ _ _ nbx0run16 nbx0sch16 nbx0sch17 nbx0sch18 nbx0sch19 nbx0sch20 nbx0sch21 nbx0sch22 nbx0sch23 (by kernel_rfl)
theorem nbx0run32 : RUN (SCH nbB0) (STOF (FIRST 32)) 32 = ⟨3190243660, 1041004937, 1208469157, 782999119, 509430448, 672476862, 1278990347, 802931073⟩ := round8 _ _ _ _ 24 _ _ _ _ _ _ _ _ nbx0run24 nbx0sch24 nbx0sch25 nbx0sch26 nbx0sch27 nbx0sch28 nbx0sch29 nbx0sch30 nbx0sch31 (by kernel_rfl)
theorem nbx0run40 : RUN (SCH nbB0) (STOF (FIRST 32)) 40 = ⟨1171627346, 874383281, 2669922317, 3083260000, 1527372285, 2295441366, 1594988234, 1452678766⟩ := round8 _ _ _ _ 32 _ _ _ _ _ _ _ _ nbx0run32 nbx0sch32 nbx0sch33 nbx0sch34 nbx0sch35 nbx0sch36 nbx0sch37 nbx0sch38 nbx0sch39 (by kernel_rfl)
theorem nbx0run48 : RUN (SCH nbB0) (STOF (FIRST 32)) 48 = ⟨4128213588, 4053027032, 3126759567, 1226762932, 2393183568, 174829088, 3889449141, 2802670751⟩ := round8 _ _ _ _ 40 _ _ _ _ _ _ _ _ nbx0run40 nbx0sch40 nbx0sch41 nbx0sch42 nbx0sch43 nbx0sch44 nbx0sch45 nbx0sch46 nbx0sch47 (by kernel_rfl)
theorem nbx0run56 : RUN (SCH nbB0) (STOF (FIRST 32)) 56 = ⟨2187155576, 2101971501, 469511200, 3811565538, 2059812776, 3077744909, 1211017228, 3675153871⟩ := round8 _ _ _ _ 48 _ _ _ _ _ _ _ _ nbx0run48 nbx0sch48 nbx0sch49 nbx0sch50 nbx0sch51 nbx0sch52 nbx0sch53 nbx0sch54 nbx0sch55 (by kernel_rfl)
theorem nbx0run64 : RUN (SCH nbB0) (STOF (FIRST 32)) 64 = ⟨53148274, 810127538, 3331866657, 1381372688, 188116324, 2252108885, 2522232370, 4291279328⟩ := round8 _ _ _ _ 56 _ _ _ _ _ _ _ _ nbx0run56 nbx0sch56 nbx0sch57 nbx0sch58 nbx0sch59 nbx0sch60 nbx0sch61 nbx0sch62 nbx0sch63 (by kernel_rfl)
theorem nbx0out0 : OUTW (FIRST 32) nbB0 0 = 1832181977 := by
  rw [OUTW, nbx0run64]
  kernel_rfl
theorem nbx0out1 : OUTW (FIRST 32) nbB0 1 = 3954261815 := by
  rw [OUTW, nbx0run64]
  kernel_rfl
theorem nbx0out2 : OUTW (FIRST 32) nbB0 2 = 50803603 := by
  rw [OUTW, nbx0run64]
  kernel_rfl
theorem nbx0out3 : OUTW (FIRST 32) nbB0 3 = 4154853450 := by
  rw [OUTW, nbx0run64]
  kernel_rfl
theorem nbx0out4 : OUTW (FIRST 32) nbB0 4 = 1548009443 := by
  rw [OUTW, nbx0run64]
  kernel_rfl
theorem nbx0out5 : OUTW (FIRST 32) nbB0 5 = 557964513 := by
  rw [OUTW, nbx0run64]
  kernel_rfl
theorem nbx0out6 : OUTW (FIRST 32) nbB0 6 = 3050967005 := by
  rw [OUTW, nbx0run64]
  kernel_rfl
theorem nbx0out7 : OUTW (FIRST 32) nbB0 7 = 1537771257 := by
  rw [OUTW, nbx0run64]
  kernel_rfl
theorem nbx0list : (List.range 32).map (COMP 32 (FIRST 32) nbB0) = [109, 52, 224, 217, 235, 177, 63, 55, 3, 7, 51, 147, 247, 166, 8, 74, 92, 68, 191, 227, 33, 65, 220, 225, 181, 218, 15, 221, 91, 168, 134, 249] := by
  rw [comp_words, nbx0out0, nbx0out1, nbx0out2, nbx0out3, nbx0out4, nbx0out5, nbx0out6, nbx0out7]
  kernel_rfl
def nbS1 (i : Nat) : Nat := ([109, 52, 224, 217, 235, 177, 63, 55, 3, 7, 51, 147, 247, 166, 8, 74, 92, 68, 191, 227, 33, 65, 220, 225, 181, 218, 15, 221, 91, 168, 134, 249] : List Nat).getD i 0
theorem nbx0fun : COMP 32 (FIRST 32) nbB0 = nbS1 := comp_fun _ _ _ nbx0list rfl
def nbB1 : Nat → Nat := BLK ([1, 1, 0, 0, 0, 0, 0, 0, 0, 0, 0, 0, 0, 0, 0, 0, 0, 0, 0, 0, 0, 0, 0, 0, 0, 0, 0, 0, 0, 0, 0, 0, 0, 1, 0, 0, 0, 0, 0, 0, 0, 0, 0, 0, 0, 0, 0, 0, 0, 0, 0, 0, 0, 0, 0, 0, 0, 0, 0, 0, 0, 0, 0, 0, 0] ++ END 65) 1
theorem nbx1sch0 : SCH nbB1 0 = 8388608 := (SCH_first nbB1 0 (by decide)).trans (by kernel_rfl)
theorem nbx1sch1 : SCH nbB1 1 = 0 := (SCH_first nbB1 1 (by decide)).trans (by kernel_rfl)
theorem nbx1sch2 : SCH nbB1 2 = 0 := (SCH_first nbB1 2 (by decide)).trans (by kernel_rfl)
theorem nbx1sch3 : SCH nbB1 3 = 0 := (SCH_first nbB1 3 (by decide)).trans (by kernel_rfl)
theorem nbx1sch4 : SCH nbB1 4 = 0 := (SCH_first nbB1 4 (by decide)).trans (by kernel_rfl)
theorem nbx1sch5 : SCH nbB1 5 = 0 := (SCH_first nbB1 5 (by decide)).trans (by kernel_rfl)
theorem nbx1sch6 : SCH nbB1 6 = 0 := (SCH_first nbB1 6 (by decide)).trans (by kernel_rfl)
theorem nbx1sch7 : SCH nbB1 7 = 0 := (SCH_first nbB1 7 (by decide)).trans (by kernel_rfl)
theorem nbx1sch8 : SCH nbB1 8 = 0 := (SCH_first nbB1 8 (by decide)).trans (by kernel_rfl)
theorem nbx1sch9 : SCH nbB1 9 = 0 := (SCH_first nbB1 9 (by decide)).trans (by kernel_rfl)
theorem nbx1sch10 : SCH nbB1 10 = 0 := (SCH_first nbB1 10 (by decide)).trans (by kernel_rfl)
theorem nbx1sch11 : SCH nbB1 11 = 0 := (SCH_first nbB1 11 (by decide)).trans (by kernel_rfl)
theorem nbx1sch12 : SCH nbB1 12 = 0 := (SCH_first nbB1 12 (by decide)).trans (by kernel_rfl)
theorem nbx1sch13 : SCH nbB1 13 = 0 := (SCH_first nbB1 13 (by decide)).trans (by kernel_rfl)
theorem nbx1sch14 : SCH nbB1 14 = 0 := (SCH_first nbB1 14 (by decide)).trans (by kernel_rfl)
theorem nbx1sch15 : SCH nbB1 15 = 520 := (SCH_first nbB1 15 (by decide)).trans (by kernel_rfl)
theorem nbx1sch16 : SCH nbB1 16 = 8388608 := next_val nbB1 0 _ _ _ _ _ (by decide) nbx1sch14 nbx1sch9 nbx1sch1 nbx1sch0 (by kernel_rfl)
theorem nbx1sch17 : SCH nbB1 17 = 21299200 := next_val nbB1 1 _ _ _ _ _ (by decide) nbx1sch15 nbx1sch10 nbx1sch2 nbx1sch1 (by kernel_rfl)
theorem nbx1sch18 : SCH nbB1 18 = 8272 := next_val nbB1 2 _ _ _ _ _ (by decide) nbx1sch16 nbx1sch11 nbx1sch3 nbx1sch2 (by kernel_rfl)
theorem nbx1sch19 : SCH nbB1 19 = 536891850 := next_val nbB1 3 _ _ _ _ _ (by decide) nbx1sch17 nbx1sch12 nbx1sch4 nbx1sch3 (by kernel_rfl)
theorem nbx1sch20 : SCH nbB1 20 = 337772552 := next_val nbB1 4 _ _ _ _ _ (by decide) nbx1sch18 nbx1sch13 nbx1sch5 nbx1sch4 (by kernel_rfl)
theorem nbx1sch21 : SCH nbB1 21 = 584340500 := next_val nbB1 5 _ _ _ _ _ (by decide) nbx1sch19 nbx1sch14 nbx1sch6 nbx1sch5 (by kernel_rfl)
theorem nbx1sch22 : SCH nbB1 22 = 1073742365 := next_val nbB1 6 _ _ _ _ _ (by decide) nbx1sch20 nbx1sch15 nbx1sch7 nbx1sch6 (by kernel_rfl)
theorem nbx1sch23 : SCH nbB1 23 = 2701140005 := next_val nbB1 7 _ _ _ _ _ (by decide) nbx1sch21 nbx1sch16 nbx1sch8 nbx1sch7 (by kernel_rfl)
theorem nbx1sch24 : SCH nbB1 24 = 44173312 := next_val nbB1 8 _ _ _ _ _ (by decide) nbx1sch22 nbx1sch17 nbx1sch9 nbx1sch8 (by kernel_rfl)
theorem nbx1sch25 : SCH nbB1 25 = 339625208 := next_val nbB1 9 _ _ _ _ _ (by decide) nbx1sch23 nbx1sch18 nbx1sch10 nbx1sch9 (by kernel_rfl)
theorem nbx1sch26 : SCH nbB1 26 = 1694563153 := next_val nbB1 10 _ _ _ _ _ (by decide) nbx1sch24 nbx1sch19 nbx1sch11 nbx1sch10 (by kernel_rfl)
theorem nbx1sch27 : SCH nbB1 27 = 4278716177 := next_val nbB1 11 _ _ _ _ _ (by decide) nbx1sch25 nbx1sch20 nbx1sch12 nbx1sch11 (by kernel_rfl)
theorem nbx1sch28 : SCH nbB1 28 = 2242916914 := next_val nbB1 12 _ _ _ _ _ (by decide) nbx1sch26 nbx1sch21 nbx1sch13 nbx1sch12 (by kernel_rfl)
theorem nbx1sch29 : SCH nbB1 29 = 1129645185 := next_val nbB1 13 _ _ _ _ _ (by decide) nbx1sch27 nbx1sch22 nbx1sch14 nbx1sch13 (by kernel_rfl)
theorem nbx1sch30 : SCH nbB1 30 = 3506478796 := next_val nbB1 14 _ _ _ _ _ (by decide) nbx1sch28 nbx1sch23 nbx1sch15 nbx1sch14 (by kernel_rfl)
theorem nbx1sch31 : SCH nbB1 31 = 628319913 := next_val nbB1 15 _ _ _ _ _ (by decide) nbx1sch29 nbx1sch24 nbx1sch16 nbx1sch15 (by kernel_rfl)
theorem nbx1sch32 : SCH nbB1 32 = 2977178064 := next_val nbB1 16 _ _ _ _ _ (by decide) nbx1sch30 nbx1sch25 nbx1sch17 nbx1sch16 (by kernel_rfl)
theorem nbx1sch33 : SCH nbB1 33 = 3991071337 := next_val nbB1 17 _ _ _ _ _ (by decide) nbx1sch31 nbx1sch26 nbx1sch18 nbx1sch17 (by kernel_rfl)
theorem nbx1sch34 : SCH nbB1 34 = 406371735 := next_val nbB1 18 _ _ _ _ _ (by decide) nbx1sch32 nbx1sch27 nbx1sch19 nbx1sch18 (by kernel_rfl)
theorem nbx1sch35 : SCH nbB1 35 = 1621178620 := next_val nbB1 19 _ _ _ _ _ (by decide) nbx1sch33 nbx1sch28 nbx1sch20 nbx1sch19 (by kernel_rfl)
theorem nbx1sch36 : SCH nbB1 36 = 3658518620 := next_val nbB1 20 _ _ _ _ _ (by decide) nbx1sch34 nbx1sch29 nbx1sch21 nbx1sch20 (by kernel_rfl)
theorem nbx1sch37 : SCH nbB1 37 = 3780499249 := next_val nbB1 21 _ _ _ _ _ (by decide) nbx1sch35 nbx1sch30 nbx1sch22 nbx1sch21 (by kernel_rfl)
theorem nbx1sch38 : SCH nbB1 38 = 384976696 := next_val nbB1 22 _ _ _ _ _ (by decide) nbx1sch36 nbx1sch31 nbx1sch23 nbx1sch22 (by kernel_rfl)
theorem nbx1sch39 : SCH nbB1 39 = 638312866 := next_val nbB1 23 _ _ _ _ _ (by decide) nbx1sch37 nbx1sch32 nbx1sch24 nbx1sch23 (by kernel_rfl)
theorem nbx1sch40 : SCH nbB1 40 = 3214235832 := next_val nbB1 24 _ _ _ _ _ (by decide) nbx1sch38 nbx1sch33 nbx1sch25 nbx1sch24 (by kernel_rfl)
theorem nbx1sch41 : SCH nbB1 41 = 1243750311 := next_val nbB1 25 _ _ _ _ _ (by decide) nbx1sch39 nbx1sch34 nbx1sch26 nbx1sch25 (by kernel_rfl)
theorem nbx1sch42 : SCH nbB1 42 = 182604009 := next_val nbB1 26 _ _ _ _ _ (by decide) nbx1sch40 nbx1sch35 nbx1sch27 nbx1sch26 (by kernel_rfl)
theorem nbx1sch43 : SCH nbB1 43 = 2659197837 := next_val nbB1 27 _ _ _ _ _ (by decide) nbx1sch41 nbx1sch36 nbx1sch28 nbx1sch27 (by kernel_rfl)
theorem nbx1sch44 : SCH nbB1 44 = 356352104 := next_val nbB1 28 _ _ _ _ _ (by decide) nbx1sch42 nbx1sch37 nbx1sch29 nbx1sch28 (by kernel_rfl)
theorem nbx1sch45 : SCH nbB1 45 = 336154357 := next_val nbB1 29 _ _ _ _ _ (by decide) nbx1sch43 nbx1sch38 nbx1sch30 nbx1sch29 (by kernel_rfl)
theorem nbx1sch46 : SCH nbB1 46 = 4137126667 := next_val nbB1 30 _ _ _ _ _ (by decide) nbx1sch44 nbx1sch39 nbx1sch31 nbx1sch30 (by kernel_rfl)
theorem nbx1sch47 : SCH nbB1 47 = 853682779 := next_val nbB1 31 _ _ _ _ _ (by decide) nbx1sch45 nbx1sch40 nbx1sch32 nbx1sch31 (by kernel_rfl)
theorem nbx1sch48 : SCH nbB1 48 = 2775401939 := next_val nbB1 32 _ _ _ _ _ (by decide) nbx1sch46 nbx1sch41 nbx1sch33 nbx1sch32 (by kernel_rfl)
theorem nbx1sch49 : SCH nbB1 49 = 1266820032 := next_val nbB1 33 _ _ _ _ _ (by decide) nbx1sch47 nbx1sch42 nbx1sch34 nbx1sch33 (by kernel_rfl)
theorem nbx1sch50 : SCH nbB1 50 = 2082364340 := next_val nbB1 34 _ _ _ _ _ (by decide) nbx1sch48 nbx1sch43 nbx1sch35 nbx1sch34 (by kernel_rfl)
theorem nbx1sch51 : SCH nbB1 51 = 1380617036 := next_val nbB1 35 _ _ _ _ _ (by decide) nbx1sch49 nbx1sch44 nbx1sch36 nbx1sch35 (by kernel_rfl)
theorem nbx1sch52 : SCH nbB1 52 = 3740401288 := next_val nbB1 36 _ _ _ _ _ (by decide) nbx1sch50 nbx1sch45 nbx1sch37 nbx1sch36 (by kernel_rfl)
theorem nbx1sch53 : SCH nbB1 53 = 3490069983 := next_val nbB1 37 _ _ _ _ _ (by decide) nbx1sch51 nbx1sch46 nbx1sch38 nbx1sch37 (by kernel_rfl)
theorem nbx1sch54 : SCH nbB1 54 = 3277659361 := next_val nbB1 38 _ _ _ _ _ (by decide) nbx1sch52 nbx1sch47 nbx1sch39 nbx1sch38 (by kernel_rfl)
theorem nbx1sch55 : SCH nbB1 55 = 3581733188 := next_val nbB1 39 _ _ _ _ _ (by decide) nbx1sch53 nbx1sch48 nbx1sch40 nbx1sch39 (by kernel_rfl)
theorem nbx1sch56 : SCH nbB1 56 = 4180500541 := next_val nbB1 40 _ _ _ _ _ (by decide) nbx1sch54 nbx1sch49 nbx1sch41 nbx1sch40 (by kernel_rfl)
theorem nbx1sch57 : SCH nbB1 57 = 4151572106 := next_val nbB1 41 _ _ _ _ _ (by decide) nbx1sch55 nbx1sch50 nbx1sch42 nbx1sch41 (by kernel_rfl)
theorem nbx1sch58 : SCH nbB1 58 = 2036484278 := next_val nbB1 42 _ _ _ _ _ (by decide) nbx1sch56 nbx1sch51 nbx1sch43 nbx1sch42 (by kernel_rfl)
theorem nbx1sch59 : SCH nbB1 59 = 3048466945 := next_val nbB1 43 _ _ _ _ _ (by decide) nbx1sch57 nbx1sch52 nbx1sch44 nbx1sch43 (by kernel_rfl)
theorem nbx1sch60 : SCH nbB1 60 = 229369751 := next_val nbB1 44 _ _ _ _ _ (by decide) nbx1sch58 nbx1sch53 nbx1sch45 nbx1sch44 (by kernel_rfl)
theorem nbx1sch61 : SCH nbB1 61 = 1271992381 := next_val nbB1 45 _ _ _ _ _ (by decide) nbx1sch59 nbx1sch54 nbx1sch46 nbx1sch45 (by kernel_rfl)
theorem nbx1sch62 : SCH nbB1 62 = 2516438927 := next_val nbB1 46 _ _ _ _ _ (by decide) nbx1sch60 nbx1sch55 nbx1sch47 nbx1sch46 (by kernel_rfl)
theorem nbx1sch63 : SCH nbB1 63 = 3098484440 := next_val nbB1 47 _ _ _ _ _ (by decide) nbx1sch61 nbx1sch56 nbx1sch48 nbx1sch47 (by kernel_rfl)
theorem nbx1run0 : RUN (SCH nbB1) (STOF nbS1) 0 = ⟨1832181977, 3954261815, 50803603, 4154853450, 1548009443, 557964513, 3050967005, 1537771257⟩ := by kernel_rfl
theorem nbx1run8 : RUN (SCH nbB1) (STOF nbS1) 8 = ⟨2976353367, 1281834602, 4288928047, 165575280, 547156738, 846190756, 3751399698, 4232861236⟩ := round8 _ _ _ _ 0 _ _ _ _ _ _ _ _ nbx1run0 nbx1sch0 nbx1sch1 nbx1sch2 nbx1sch3 nbx1sch4 nbx1sch5 nbx1sch6 nbx1sch7 (by kernel_rfl)
theorem nbx1run16 : RUN (SCH nbB1) (STOF nbS1) 16 = ⟨456340810, 907524431, 4188095699, 4153926699, 3764259048, 3596200603, 1767885337, 2792520245⟩ := round8 _ _ _ _ 8 _ _ _ _ _ _ _ _ nbx1run8 nbx1sch8 nbx1sch9 nbx1sch10 nbx1sch11 nbx1sch12 nbx1sch13 nbx1sch14 nbx1sch15 (by kernel_rfl)
theorem nbx1run24 : RUN (SCH nbB1) (STOF nbS1) 24 = ⟨3579223478, 1002637915, 1843502896, 954289210, 1514499161, 2572190299, 3976256211, 1887160995⟩ := round8 _ _ _ _ 16 _ _ _ _ _ _ _ _ nbx1run16 nbx1sch16 nbx1sch17 nbx1sch18 nbx1sch19 nbx1sch20 nbx1sch21 nbx1sch22 nbx1sch23 (by kernel_rfl)
theorem nbx1run32 : RUN (SCH nbB1) (STOF nbS1) 32 = ⟨2596483599, 1633302657, 3747265144, 4206561350, 2123394429, 325978202, 3991022282, 2927706082⟩ := round8 _ _ _ _ 24 _ _ _ _ _ _ _ _ nbx1run24 nbx1sch24 nbx1sch25 nbx1sch26 nbx1sch27 nbx1sch28 nbx1sch29 nbx1sch30 nbx1sch31 (by kernel_rfl)
theorem nbx1run40 : RUN (SCH nbB1) (STOF nbS1) 40 = ⟨2714606785, 20270297, 163651037, 3584292367, 3355215904, 4083207588, 1321247064, 2021869042⟩ := round8 _ _ _ _ 32 _ _ _ _ _ _ _ _ nbx1run32 nbx1sch32 nbx1sch33 nbx1sch34 nbx1sch35 nbx1sch36 nbx1sch37 nbx1sch38 nbx1sch39 (by kernel_rfl)
theorem nbx1run48 : RUN (SCH nbB1) (STOF nbS1) 48 = ⟨2640819600, 1867191706, 1708640244, 735983100, 3255182945, 1316392114, 2495326007, 3361885364⟩ := round8 _ _ _ _ 40 _ _ _ _ _ _ _ _ nbx1run40 nbx1sch40 nbx1sch41 nbx1sch42 nbx1sch43 nbx1sch44 nbx1sch45 nbx1sch46 nbx1sch47 (by kernel_rfl)
theorem nbx1run56 : RUN (SCH nbB1) (STOF nbS1) 56 = ⟨747029865, 1802516401, 3104952105, 3198873932, 3833073523, 656441027, 1698079123, 2656296892⟩ := round8 _ _ _ _ 48 _ _ _ _ _ _ _ _ nbx1run48 nbx1sch48 nbx1sch49 nbx1sch50 nbx1sch51 nbx1sch52 nbx1sch53 nbx1sch54 nbx1sch55 (by kernel_rfl)
theorem nbx1run64 : RUN (SCH nbB1) (STOF nbS1) 64 = ⟨532835694, 1894753444, 3828566761, 1524022290, 1503402239, 692030955, 128384792, 1626406925⟩ := round8 _ _ _ _ 56 _ _ _ _ _ _ _ _ nbx1run56 nbx1sch56 nbx1sch57 nbx1sch58 nbx1sch59 nbx1sch60 nbx1sch61 nbx1sch62 nbx1sch63 (by kernel_rfl)
theorem nbx1out0 : OUTW nbS1 nbB1 0 = 2365017671 := by
  rw [OUTW, nbx1run64]
  kernel_rfl
theorem nbx1out1 : OUTW nbS1 nbB1 1 = 1554047963 := by
  rw [OUTW, nbx1run64]
  kernel_rfl
theorem nbx1out2 : OUTW nbS1 nbB1 2 = 3879370364 := by
  rw [OUTW, nbx1run64]
  kernel_rfl
theorem nbx1out3 : OUTW nbS1 nbB1 3 = 1383908444 := by
  rw [OUTW, nbx1run64]
  kernel_rfl
theorem nbx1out4 : OUTW nbS1 nbB1 4 = 3051411682 := by
  rw [OUTW, nbx1run64]
  kernel_rfl
theorem nbx1out5 : OUTW nbS1 nbB1 5 = 1249995468 := by
  rw [OUTW, nbx1run64]
  kernel_rfl
theorem nbx1out6 : OUTW nbS1 nbB1 6 = 3179351797 := by
  rw [OUTW, nbx1run64]
  kernel_rfl
theorem nbx1out7 : OUTW nbS1 nbB1 7 = 3164178182 := by
  rw [OUTW, nbx1run64]
  kernel_rfl
theorem nbx1list : (List.range 32).map (COMP 32 nbS1 nbB1) = [140, 247, 78, 71, 92, 160, 227, 219, 231, 58, 126, 124, 82, 124, 196, 92, 181, 224, 216, 226, 74, 129, 106, 204, 189, 129, 14, 245, 188, 153, 135, 6] := by
  rw [comp_words, nbx1out0, nbx1out1, nbx1out2, nbx1out3, nbx1out4, nbx1out5, nbx1out6, nbx1out7]
  kernel_rfl
def nbS2 (i : Nat) : Nat := ([140, 247, 78, 71, 92, 160, 227, 219, 231, 58, 126, 124, 82, 124, 196, 92, 181, 224, 216, 226, 74, 129, 106, 204, 189, 129, 14, 245, 188, 153, 135, 6] : List Nat).getD i 0
theorem nbx1fun : COMP 32 nbS1 nbB1 = nbS2 := comp_fun _ _ _ nbx1list rfl
theorem nblen : ([1, 1, 0, 0, 0, 0, 0, 0, 0, 0, 0, 0, 0, 0, 0, 0, 0, 0, 0, 0, 0, 0, 0, 0, 0, 0, 0, 0, 0, 0, 0, 0, 0, 1, 0, 0, 0, 0, 0, 0, 0, 0, 0, 0, 0, 0, 0, 0, 0, 0, 0, 0, 0, 0, 0, 0, 0, 0, 0, 0, 0, 0, 0, 0, 0] ++ END 65).length / 64 = 2 := by rw [List.length_append, END_length]; kernel_rfl
theorem nbhash : HASHOF 32 [1, 1, 0, 0, 0, 0, 0, 0, 0, 0, 0, 0, 0, 0, 0, 0, 0, 0, 0, 0, 0, 0, 0, 0, 0, 0, 0, 0, 0, 0, 0, 0, 0, 1, 0, 0, 0, 0, 0, 0, 0, 0, 0, 0, 0, 0, 0, 0, 0, 0, 0, 0, 0, 0, 0, 0, 0, 0, 0, 0, 0, 0, 0, 0, 0] = nbS2 := by
  rw [hashof_len 32 [1, 1, 0, 0, 0, 0, 0, 0, 0, 0, 0, 0, 0, 0, 0, 0, 0, 0, 0, 0, 0, 0, 0, 0, 0, 0, 0, 0, 0, 0, 0, 0, 0, 1, 0, 0, 0, 0, 0, 0, 0, 0, 0, 0, 0, 0, 0, 0, 0, 0, 0, 0, 0, 0, 0, 0, 0, 0, 0, 0, 0, 0, 0, 0, 0] 65 rfl, nblen, state_two]
  show COMP 32 (COMP 32 (FIRST 32) nbB0) nbB1 = nbS2
  rw [nbx0fun, nbx1fun]
def faB0 : Nat → Nat := BLK ([2, 127, 80, 117, 78, 227, 143, 160, 51, 23, 237, 95, 254, 79, 42, 217, 20, 128, 133, 79, 170, 249, 85, 136, 108, 215, 128, 243, 116, 250, 101, 130, 246, 3, 0, 0, 0, 0, 0, 0, 0, 0, 0, 0, 0, 0, 0, 0, 0, 0, 0, 0, 0, 0, 0, 0, 0, 0, 0, 0, 0, 0, 0, 0, 0] ++ END 65) 0
theorem fax0sch0 : SCH faB0 0 = 41898101 := (SCH_first faB0 0 (by decide)).trans (by kernel_rfl)
theorem fax0sch1 : SCH faB0 1 = 1323536288 := (SCH_first faB0 1 (by decide)).trans (by kernel_rfl)
theorem fax0sch2 : SCH faB0 2 = 857206111 := (SCH_first faB0 2 (by decide)).trans (by kernel_rfl)
theorem fax0sch3 : SCH faB0 3 = 4266601177 := (SCH_first faB0 3 (by decide)).trans (by kernel_rfl)
theorem fax0sch4 : SCH faB0 4 = 343967055 := (SCH_first faB0 4 (by decide)).trans (by kernel_rfl)
theorem fax0sch5 : SCH faB0 5 = 2868467080 := (SCH_first faB0 5 (by decide)).trans (by kernel_rfl)
theorem fax0sch6 : SCH faB0 6 = 1826062579 := (SCH_first faB0 6 (by decide)).trans (by kernel_rfl)
theorem fax0sch7 : SCH faB0 7 = 1962567042 := (SCH_first faB0 7 (by decide)).trans (by kernel_rfl)
theorem fax0sch8 : SCH faB0 8 = 4127391744 := (SCH_first faB0 8 (by decide)).trans (by kernel_rfl)
theorem fax0sch9 : SCH faB0 9 = 0 := (SCH_first faB0 9 (by decide)).trans (by kernel_rfl)
theorem fax0sch10 : SCH faB0 10 = 0 := (SCH_first faB0 10 (by decide)).trans (by kernel_rfl)
theorem fax0sch11 : SCH faB0 11 = 0 := (SCH_first faB0 11 (by decide)).trans (by kernel_rfl)
theorem fax0sch12 : SCH faB0 12 = 0 := (SCH_first faB0 12 (by decide)).trans (by kernel_rfl)
theorem fax0sch13 : SCH faB0 13 = 0 := (SCH_first faB0 13 (by decide)).trans (by kernel_rfl)
theorem fax0sch14 : SCH faB0 14 = 0 := (SCH_first faB0 14 (by decide)).trans (by kernel_rfl)
theorem fax0sch15 : SCH faB0 15 = 0 := (SCH_first faB0 15 (by decide)).trans (by kernel_rfl)
theorem fax0sch16 : SCH faB0 16 = 2905142728 := next_val faB0 0 _ _ _ _ _ (by decide) fax0sch14 fax0sch9 fax0sch1 fax0sch0 (by kernel_rfl)
theorem fax0sch17 : SCH faB0 17 = 2453057108 := next_val faB0 1 _ _ _ _ _ (by decide) fax0sch15 fax0sch10 fax0sch2 fax0sch1 (by kernel_rfl)
theorem fax0sch18 : SCH faB0 18 = 4262525704 := next_val faB0 2 _ _ _ _ _ (by decide) fax0sch16 fax0sch11 fax0sch3 fax0sch2 (by kernel_rfl)
theorem fax0sch19 : SCH faB0 19 = 1056855634 := next_val faB0 3 _ _ _ _ _ (by decide) fax0sch17 fax0sch12 fax0sch4 fax0sch3 (by kernel_rfl)
theorem fax0sch20 : SCH faB0 20 = 3368312039 := next_val faB0 4 _ _ _ _ _ (by decide) fax0sch18 fax0sch13 fax0sch5 fax0sch4 (by kernel_rfl)
theorem fax0sch21 : SCH faB0 21 = 2556805351 := next_val faB0 5 _ _ _ _ _ (by decide) fax0sch19 fax0sch14 fax0sch6 fax0sch5 (by kernel_rfl)
theorem fax0sch22 : SCH faB0 22 = 2781532837 := next_val faB0 6 _ _ _ _ _ (by decide) fax0sch20 fax0sch15 fax0sch7 fax0sch6 (by kernel_rfl)
theorem fax0sch23 : SCH faB0 23 = 1503190296 := next_val faB0 7 _ _ _ _ _ (by decide) fax0sch21 fax0sch16 fax0sch8 fax0sch7 (by kernel_rfl)
theorem fax0sch24 : SCH faB0 24 = 3144205116 := next_val faB0 8 _ _ _ _ _ (by decide) fax0sch22 fax0sch17 fax0sch9 fax0sch8 (by kernel_rfl)
theorem fax0sch25 : SCH faB0 25 = 1934245072 := next_val faB0 9 _ _ _ _ _ (by decide) fax0sch23 fax0sch18 fax0sch10 fax0sch9 (by kernel_rfl)
theorem fax0sch26 : SCH faB0 26 = 3100993339 := next_val faB0 10 _ _ _ _ _ (by decide) fax0sch24 fax0sch19 fax0sch11 fax0sch10 (by kernel_rfl)
theorem fax0sch27 : SCH faB0 27 = 582173226 := next_val faB0 11 _ _ _ _ _ (by decide) fax0sch25 fax0sch20 fax0sch12 fax0sch11 (by kernel_rfl)
theorem fax0sch28 : SCH faB0 28 = 3082444560 := next_val faB0 12 _ _ _ _ _ (by decide) fax0sch26 fax0sch21 fax0sch13 fax0sch12 (by kernel_rfl)
theorem fax0sch29 : SCH faB0 29 = 1864617092 := next_val faB0 13 _ _ _ _ _ (by decide) fax0sch27 fax0sch22 fax0sch14 fax0sch13 (by kernel_rfl)
theorem fax0sch30 : SCH faB0 30 = 3185606869 := next_val faB0 14 _ _ _ _ _ (by decide) fax0sch28 fax0sch23 fax0sch15 fax0sch14 (by kernel_rfl)
theorem fax0sch31 : SCH faB0 31 = 348101082 := next_val faB0 15 _ _ _ _ _ (by decide) fax0sch29 fax0sch24 fax0sch16 fax0sch15 (by kernel_rfl)
theorem fax0sch32 : SCH faB0 32 = 2177490975 := next_val faB0 16 _ _ _ _ _ (by decide) fax0sch30 fax0sch25 fax0sch17 fax0sch16 (by kernel_rfl)
theorem fax0sch33 : SCH faB0 33 = 3151723984 := next_val faB0 17 _ _ _ _ _ (by decide) fax0sch31 fax0sch26 fax0sch18 fax0sch17 (by kernel_rfl)
theorem fax0sch34 : SCH faB0 34 = 589773232 := next_val faB0 18 _ _ _ _ _ (by decide) fax0sch32 fax0sch27 fax0sch19 fax0sch18 (by kernel_rfl)
theorem fax0sch35 : SCH faB0 35 = 2313577151 := next_val faB0 19 _ _ _ _ _ (by decide) fax0sch33 fax0sch28 fax0sch20 fax0sch19 (by kernel_rfl)
theorem fax0sch36 : SCH faB0 36 = 1607768872 := next_val faB0 20 _ _ _ _ _ (by decide) fax0sch34 fax0sch29 fax0sch21 fax0sch20 (by kernel_rfl)
theorem fax0sch37 : SCH faB0 37 = 1053570198 := next_val faB0 21 _ _ _ _ _ (by decide) fax0sch35 fax0sch30 fax0sch22 fax0sch21 (by kernel_rfl)
theorem fax0sch38 : SCH faB0 38 = 2788653620 := next_val faB0 22 _ _ _ _ _ (by decide) fax0sch36 fax0sch31 fax0sch23 fax0sch22 (by kernel_rfl)
theorem fax0sch39 : SCH faB0 39 = 3608023076 := next_val faB0 23 _ _ _ _ _ (by decide) fax0sch37 fax0sch32 fax0sch24 fax0sch23 (by kernel_rfl)
theorem fax0sch40 : SCH faB0 40 = 3950336576 := next_val faB0 24 _ _ _ _ _ (by decide) fax0sch38 fax0sch33 fax0sch25 fax0sch24 (by kernel_rfl)
theorem fax0sch41 : SCH faB0 41 = 2587529598 := next_val faB0 25 _ _ _ _ _ (by decide) fax0sch39 fax0sch34 fax0sch26 fax0sch25 (by kernel_rfl)
theorem fax0sch42 : SCH faB0 42 = 3383231977 := next_val faB0 26 _ _ _ _ _ (by decide) fax0sch40 fax0sch35 fax0sch27 fax0sch26 (by kernel_rfl)
theorem fax0sch43 : SCH faB0 43 = 1033502978 := next_val faB0 27 _ _ _ _ _ (by decide) fax0sch41 fax0sch36 fax0sch28 fax0sch27 (by kernel_rfl)
theorem fax0sch44 : SCH faB0 44 = 4011684167 := next_val faB0 28 _ _ _ _ _ (by decide) fax0sch42 fax0sch37 fax0sch29 fax0sch28 (by kernel_rfl)
theorem fax0sch45 : SCH faB0 45 = 4076619033 := next_val faB0 29 _ _ _ _ _ (by decide) fax0sch43 fax0sch38 fax0sch30 fax0sch29 (by kernel_rfl)
theorem fax0sch46 : SCH faB0 46 = 4234635089 := next_val faB0 30 _ _ _ _ _ (by decide) fax0sch44 fax0sch39 fax0sch31 fax0sch30 (by kernel_rfl)
theorem fax0sch47 : SCH faB0 47 = 25541627 := next_val faB0 31 _ _ _ _ _ (by decide) fax0sch45 fax0sch40 fax0sch32 fax0sch31 (by kernel_rfl)
theorem fax0sch48 : SCH faB0 48 = 3841671610 := next_val faB0 32 _ _ _ _ _ (by decide) fax0sch46 fax0sch41 fax0sch33 fax0sch32 (by kernel_rfl)
theorem fax0sch49 : SCH faB0 49 = 2589239009 := next_val faB0 33 _ _ _ _ _ (by decide) fax0sch47 fax0sch42 fax0sch34 fax0sch33 (by kernel_rfl)
theorem fax0sch50 : SCH faB0 50 = 538258895 := next_val faB0 34 _ _ _ _ _ (by decide) fax0sch48 fax0sch43 fax0sch35 fax0sch34 (by kernel_rfl)
theorem fax0sch51 : SCH faB0 51 = 3189599477 := next_val faB0 35 _ _ _ _ _ (by decide) fax0sch49 fax0sch44 fax0sch36 fax0sch35 (by kernel_rfl)
theorem fax0sch52 : SCH faB0 52 = 2896749260 := next_val faB0 36 _ _ _ _ _ (by decide) fax0sch50 fax0sch45 fax0sch37 fax0sch36 (by kernel_rfl)
theorem fax0sch53 : SCH faB0 53 = 4194775996 := next_val faB0 37 _ _ _ _ _ (by decide) fax0sch51 fax0sch46 fax0sch38 fax0sch37 (by kernel_rfl)
theorem fax0sch54 : SCH faB0 54 = 3961064463 := next_val faB0 38 _ _ _ _ _ (by decide) fax0sch52 fax0sch47 fax0sch39 fax0sch38 (by kernel_rfl)
theorem fax0sch55 : SCH faB0 55 = 97071246 := next_val faB0 39 _ _ _ _ _ (by decide) fax0sch53 fax0sch48 fax0sch40 fax0sch39 (by kernel_rfl)
theorem fax0sch56 : SCH faB0 56 = 2008256624 := next_val faB0 40 _ _ _ _ _ (by decide) fax0sch54 fax0sch49 fax0sch41 fax0sch40 (by kernel_rfl)
theorem fax0sch57 : SCH faB0 57 = 1149473338 := next_val faB0 41 _ _ _ _ _ (by decide) fax0sch55 fax0sch50 fax0sch42 fax0sch41 (by kernel_rfl)
theorem fax0sch58 : SCH faB0 58 = 3313125357 := next_val faB0 42 _ _ _ _ _ (by decide) fax0sch56 fax0sch51 fax0sch43 fax0sch42 (by kernel_rfl)
theorem fax0sch59 : SCH faB0 59 = 1945804048 := next_val faB0 43 _ _ _ _ _ (by decide) fax0sch57 fax0sch52 fax0sch44 fax0sch43 (by kernel_rfl)
theorem fax0sch60 : SCH faB0 60 = 2438641180 := next_val faB0 44 _ _ _ _ _ (by decide) fax0sch58 fax0sch53 fax0sch45 fax0sch44 (by kernel_rfl)
theorem fax0sch61 : SCH faB0 61 = 1642887050 := next_val faB0 45 _ _ _ _ _ (by decide) fax0sch59 fax0sch54 fax0sch46 fax0sch45 (by kernel_rfl)
theorem fax0sch62 : SCH faB0 62 = 2833752179 := next_val faB0 46 _ _ _ _ _ (by decide) fax0sch60 fax0sch55 fax0sch47 fax0sch46 (by kernel_rfl)
theorem fax0sch63 : SCH faB0 63 = 3885857739 := next_val faB0 47 _ _ _ _ _ (by decide) fax0sch61 fax0sch56 fax0sch48 fax0sch47 (by kernel_rfl)
theorem fax0run0 : RUN (SCH faB0) (STOF (FIRST 32)) 0 = ⟨1779033703, 3144134277, 1013904242, 2773480762, 1359893119, 2600822924, 528734635, 1541459225⟩ := by kernel_rfl
theorem fax0run8 : RUN (SCH faB0) (STOF (FIRST 32)) 8 = ⟨3749179678, 4048036230, 52045649, 1498441377, 2845116637, 1839900007, 948376063, 3723344920⟩ := round8 _ _ _ _ 0 _ _ _ _ _ _ _ _ fax0run0 fax0sch0 fax0sch1 fax0sch2 fax0sch3 fax0sch4 fax0sch5 fax0sch6 fax0sch7 (by kernel_rfl)
theorem fax0run16 : RUN (SCH faB0) (STOF (FIRST 32)) 16 = ⟨285146140, 124093813, 2645302043, 10771943, 1050902459, 788149015, 380470408, 3516851731⟩ := round8 _ _ _ _ 8 _ _ _ _ _ _ _ _ fax0run8 fax0sch8 fax0sch9 fax0sch10 fax0sch11 fax0sch12 fax0sch13 fax0sch14 fax0sch15 (by kernel_rfl)
theorem fax0run24 : RUN (SCH faB0) (STOF (FIRST 32)) 24 = ⟨4245665142, 2086475718, 1446956743, 1869636465, 3870818662, 2765012538, 1294602272, 3761320941⟩ := round8 _ _ _ _ 16 _ _ _ _ _ _ _ _ fax0run16 fax0sch16 fax0sch17 fax0sch18 fax0sch19 fax0sch20 fax0sch21 fax0sch22 fax0sch23 (by kernel_rfl)
theorem fax0run32 : RUN (SCH faB0) (STOF (FIRST 32)) 32 = ⟨2368202083, 3118381000, 3653571951, 2935048918, 585842284, 4086775541, 1645743964, 2487317474⟩ := round8 _ _ _ _ 24 _ _ _ _ _ _ _ _ fax0run24 fax0sch24 fax0sch25 fax0sch26 fax0sch27 fax0sch28 fax0sch29 fax0sch30 fax0sch31 (by kernel_rfl)
theorem fax0run40 : RUN (SCH faB0) (STOF (FIRST 32)) 40 = ⟨3386675941, 3864460724, 905036843, 3928752660, 3491034114, 2350989861, 3914150082, 1098331883⟩ := round8 _ _ _ _ 32 _ _ _ _ _ _ _ _ fax0run32 fax0sch32 fax0sch33 fax0sch34 fax0sch35 fax0sch36 fax0sch37 fax0sch38 fax0sch39 (by kernel_rfl)
theorem fax0run48 : RUN (SCH faB0) (STOF (FIRST 32)) 48 = ⟨1760129319, 4142561883, 3539582178, 3031665661, 2676361012, 387461673, 192500068, 4252006255⟩ := round8 _ _ _ _ 40 _ _ _ _ _ _ _ _ fax0run40 fax0sch40 fax0sch41 fax0sch42 fax0sch43 fax0sch44 fax0sch45 fax0sch46 fax0sch47 (by kernel_rfl)
theorem fax0run56 : RUN (SCH faB0) (STOF (FIRST 32)) 56 = ⟨169628306, 4294082014, 2961904389, 2089499849, 4064796806, 824308988, 2354965597, 2716356685⟩ := round8 _ _ _ _ 48 _ _ _ _ _ _ _ _ fax0run48 fax0sch48 fax0sch49 fax0sch50 fax0sch51 fax0sch52 fax0sch53 fax0sch54 fax0sch55 (by kernel_rfl)
theorem fax0run64 : RUN (SCH faB0) (STOF (FIRST 32)) 64 = ⟨3401449769, 1498493697, 1118138987, 677613017, 2842649880, 4049703491, 3385086764, 930979473⟩ := round8 _ _ _ _ 56 _ _ _ _ _ _ _ _ fax0run56 fax0sch56 fax0sch57 fax0sch58 fax0sch59 fax0sch60 fax0sch61 fax0sch62 fax0sch63 (by kernel_rfl)
theorem fax0out0 : OUTW (FIRST 32) faB0 0 = 885516176 := by
  rw [OUTW, fax0run64]
  kernel_rfl
theorem fax0out1 : OUTW (FIRST 32) faB0 1 = 347660678 := by
  rw [OUTW, fax0run64]
  kernel_rfl
theorem fax0out2 : OUTW (FIRST 32) faB0 2 = 2132043229 := by
  rw [OUTW, fax0run64]
  kernel_rfl
theorem fax0out3 : OUTW (FIRST 32) faB0 3 = 3451093779 := by
  rw [OUTW, fax0run64]
  kernel_rfl
theorem fax0out4 : OUTW (FIRST 32) faB0 4 = 4202542999 := by
  rw [OUTW, fax0run64]
  kernel_rfl
theorem fax0out5 : OUTW (FIRST 32) faB0 5 = 2355559119 := by
  rw [OUTW, fax0run64]
  kernel_rfl
theorem fax0out6 : OUTW (FIRST 32) faB0 6 = 3913821399 := by
  rw [OUTW, fax0run64]
  kernel_rfl
theorem fax0out7 : OUTW (FIRST 32) faB0 7 = 2472438698 := by
  rw [OUTW, fax0run64]
  kernel_rfl
theorem fax0list : (List.range 32).map (COMP 32 (FIRST 32) faB0) = [52, 199, 231, 144, 20, 184, 225, 134, 127, 20, 101, 221, 205, 179, 131, 19, 250, 125, 183, 151, 140, 102, 250, 207, 233, 72, 44, 215, 147, 94, 107, 170] := by
  rw [comp_words, fax0out0, fax0out1, fax0out2, fax0out3, fax0out4, fax0out5, fax0out6, fax0out7]
  kernel_rfl
def faS1 (i : Nat) : Nat := ([52, 199, 231, 144, 20, 184, 225, 134, 127, 20, 101, 221, 205, 179, 131, 19, 250, 125, 183, 151, 140, 102, 250, 207, 233, 72, 44, 215, 147, 94, 107, 170] : List Nat).getD i 0
theorem fax0fun : COMP 32 (FIRST 32) faB0 = faS1 := comp_fun _ _ _ fax0list rfl
def faB1 : Nat → Nat := BLK ([2, 127, 80, 117, 78, 227, 143, 160, 51, 23, 237, 95, 254, 79, 42, 217, 20, 128, 133, 79, 170, 249, 85, 136, 108, 215, 128, 243, 116, 250, 101, 130, 246, 3, 0, 0, 0, 0, 0, 0, 0, 0, 0, 0, 0, 0, 0, 0, 0, 0, 0, 0, 0, 0, 0, 0, 0, 0, 0, 0, 0, 0, 0, 0, 0] ++ END 65) 1
theorem fax1sch0 : SCH faB1 0 = 8388608 := (SCH_first faB1 0 (by decide)).trans (by kernel_rfl)
theorem fax1sch1 : SCH faB1 1 = 0 := (SCH_first faB1 1 (by decide)).trans (by kernel_rfl)
theorem fax1sch2 : SCH faB1 2 = 0 := (SCH_first faB1 2 (by decide)).trans (by kernel_rfl)
theorem fax1sch3 : SCH faB1 3 = 0 := (SCH_first faB1 3 (by decide)).trans (by kernel_rfl)
theorem fax1sch4 : SCH faB1 4 = 0 := (SCH_first faB1 4 (by decide)).trans (by kernel_rfl)
theorem fax1sch5 : SCH faB1 5 = 0 := (SCH_first faB1 5 (by decide)).trans (by kernel_rfl)
theorem fax1sch6 : SCH faB1 6 = 0 := (SCH_first faB1 6 (by decide)).trans (by kernel_rfl)
theorem fax1sch7 : SCH faB1 7 = 0 := (SCH_first faB1 7 (by decide)).trans (by kernel_rfl)
theorem fax1sch8 : SCH faB1 8 = 0 := (SCH_first faB1 8 (by decide)).trans (by kernel_rfl)
theorem fax1sch9 : SCH faB1 9 = 0 := (SCH_first faB1 9 (by decide)).trans (by kernel_rfl)
theorem fax1sch10 : SCH faB1 10 = 0 := (SCH_first faB1 10 (by decide)).trans (by kernel_rfl)
theorem fax1sch11 : SCH faB1 11 = 0 := (SCH_first faB1 11 (by decide)).trans (by kernel_rfl)
theorem fax1sch12 : SCH faB1 12 = 0 := (SCH_first faB1 12 (by decide)).trans (by kernel_rfl)
theorem fax1sch13 : SCH faB1 13 = 0 := (SCH_first faB1 13 (by decide)).trans (by kernel_rfl)
theorem fax1sch14 : SCH faB1 14 = 0 := (SCH_first faB1 14 (by decide)).trans (by kernel_rfl)
theorem fax1sch15 : SCH faB1 15 = 520 := (SCH_first faB1 15 (by decide)).trans (by kernel_rfl)
theorem fax1sch16 : SCH faB1 16 = 8388608 := next_val faB1 0 _ _ _ _ _ (by decide) fax1sch14 fax1sch9 fax1sch1 fax1sch0 (by kernel_rfl)
theorem fax1sch17 : SCH faB1 17 = 21299200 := next_val faB1 1 _ _ _ _ _ (by decide) fax1sch15 fax1sch10 fax1sch2 fax1sch1 (by kernel_rfl)
theorem fax1sch18 : SCH faB1 18 = 8272 := next_val faB1 2 _ _ _ _ _ (by decide) fax1sch16 fax1sch11 fax1sch3 fax1sch2 (by kernel_rfl)
theorem fax1sch19 : SCH faB1 19 = 536891850 := next_val faB1 3 _ _ _ _ _ (by decide) fax1sch17 fax1sch12 fax1sch4 fax1sch3 (by kernel_rfl)
theorem fax1sch20 : SCH faB1 20 = 337772552 := next_val faB1 4 _ _ _ _ _ (by decide) fax1sch18 fax1sch13 fax1sch5 fax1sch4 (by kernel_rfl)
theorem fax1sch21 : SCH faB1 21 = 584340500 := next_val faB1 5 _ _ _ _ _ (by decide) fax1sch19 fax1sch14 fax1sch6 fax1sch5 (by kernel_rfl)
theorem fax1sch22 : SCH faB1 22 = 1073742365 := next_val faB1 6 _ _ _ _ _ (by decide) fax1sch20 fax1sch15 fax1sch7 fax1sch6 (by kernel_rfl)
theorem fax1sch23 : SCH faB1 23 = 2701140005 := next_val faB1 7 _ _ _ _ _ (by decide) fax1sch21 fax1sch16 fax1sch8 fax1sch7 (by kernel_rfl)
theorem fax1sch24 : SCH faB1 24 = 44173312 := next_val faB1 8 _ _ _ _ _ (by decide) fax1sch22 fax1sch17 fax1sch9 fax1sch8 (by kernel_rfl)
theorem fax1sch25 : SCH faB1 25 = 339625208 := next_val faB1 9 _ _ _ _ _ (by decide) fax1sch23 fax1sch18 fax1sch10 fax1sch9 (by kernel_rfl)
theorem fax1sch26 : SCH faB1 26 = 1694563153 := next_val faB1 10 _ _ _ _ _ (by decide) fax1sch24 fax1sch19 fax1sch11 fax1sch10 (by kernel_rfl)
theorem fax1sch27 : SCH faB1 27 = 4278716177 := next_val faB1 11 _ _ _ _ _ (by decide) fax1sch25 fax1sch20 fax1sch12 fax1sch11 (by kernel_rfl)
theorem fax1sch28 : SCH faB1 28 = 2242916914 := next_val faB1 12 _ _ _ _ _ (by decide) fax1sch26 fax1sch21 fax1sch13 fax1sch12 (by kernel_rfl)
theorem fax1sch29 : SCH faB1 29 = 1129645185 := next_val faB1 13 _ _ _ _ _ (by decide) fax1sch27 fax1sch22 fax1sch14 fax1sch13 (by kernel_rfl)
theorem fax1sch30 : SCH faB1 30 = 3506478796 := next_val faB1 14 _ _ _ _ _ (by decide) fax1sch28 fax1sch23 fax1sch15 fax1sch14 (by kernel_rfl)
theorem fax1sch31 : SCH faB1 31 = 628319913 := next_val faB1 15 _ _ _ _ _ (by decide) fax1sch29 fax1sch24 fax1sch16 fax1sch15 (by kernel_rfl)
theorem fax1sch32 : SCH faB1 32 = 2977178064 := next_val faB1 16 _ _ _ _ _ (by decide) fax1sch30 fax1sch25 fax1sch17 fax1sch16 (by kernel_rfl)
theorem fax1sch33 : SCH faB1 33 = 3991071337 := next_val faB1 17 _ _ _ _ _ (by decide) fax1sch31 fax1sch26 fax1sch18 fax1sch17 (by kernel_rfl)
theorem fax1sch34 : SCH faB1 34 = 406371735 := next_val faB1 18 _ _ _ _ _ (by decide) fax1sch32 fax1sch27 fax1sch19 fax1sch18 (by kernel_rfl)
theorem fax1sch35 : SCH faB1 35 = 1621178620 := next_val faB1 19 _ _ _ _ _ (by decide) fax1sch33 fax1sch28 fax1sch20 fax1sch19 (by kernel_rfl)
theorem fax1sch36 : SCH faB1 36 = 3658518620 := next_val faB1 20 _ _ _ _ _ (by decide) fax1sch34 fax1sch29 fax1sch21 fax1sch20 (by kernel_rfl)
theorem fax1sch37 : SCH faB1 37 = 3780499249 := next_val faB1 21 _ _ _ _ _ (by decide) fax1sch35 fax1sch30 fax1sch22 fax1sch21 (by kernel_rfl)
theorem fax1sch38 : SCH faB1 38 = 384976696 := next_val faB1 22 _ _ _ _ _ (by decide) fax1sch36 fax1sch31 fax1sch23 fax1sch22 (by kernel_rfl)
theorem fax1sch39 : SCH faB1 39 = 638312866 := next_val faB1 23 _ _ _ _ _ (by decide) fax1sch37 fax1sch32 fax1sch24 fax1sch23 (by kernel_rfl)
theorem fax1sch40 : SCH faB1 40 = 3214235832 := next_val faB1 24 _ _ _ _ _ (by decide) fax1sch38 fax1sch33 fax1sch25 fax1sch24 (by kernel_rfl)
theorem fax1sch41 : SCH faB1 41 = 1243750311 := next_val faB1 25 _ _ _ _ _ (by decide) fax1sch39 fax1sch34 fax1sch26 fax1sch25 (by kernel_rfl)
theorem fax1sch42 : SCH faB1 42 = 182604009 := next_val faB1 26 _ _ _ _ _ (by decide) fax1sch40 fax1sch35 fax1sch27 fax1sch26 (by kernel_rfl)
theorem fax1sch43 : SCH faB1 43 = 2659197837 := next_val faB1 27 _ _ _ _ _ (by decide) fax1sch41 fax1sch36 fax1sch28 fax1sch27 (by kernel_rfl)
theorem fax1sch44 : SCH faB1 44 = 356352104 := next_val faB1 28 _ _ _ _ _ (by decide) fax1sch42 fax1sch37 fax1sch29 fax1sch28 (by kernel_rfl)
theorem fax1sch45 : SCH faB1 45 = 336154357 := next_val faB1 29 _ _ _ _ _ (by decide) fax1sch43 fax1sch38 fax1sch30 fax1sch29 (by kernel_rfl)
theorem fax1sch46 : SCH faB1 46 = 4137126667 := next_val faB1 30 _ _ _ _ _ (by decide) fax1sch44 fax1sch39 fax1sch31 fax1sch30 (by kernel_rfl)
theorem fax1sch47 : SCH faB1 47 = 853682779 := next_val faB1 31 _ _ _ _ _ (by decide) fax1sch45 fax1sch40 fax1sch32 fax1sch31 (by kernel_rfl)
theorem fax1sch48 : SCH faB1 48 = 2775401939 := next_val faB1 32 _ _ _ _ _ (by decide) fax1sch46 fax1sch41 fax1sch33 fax1sch32 (by kernel_rfl)
theorem fax1sch49 : SCH faB1 49 = 1266820032 := next_val faB1 33 _ _ _ _ _ (by decide) fax1sch47 fax1sch42 fax1sch34 fax1sch33 (by kernel_rfl)
theorem fax1sch50 : SCH faB1 50 = 2082364340 := next_val faB1 34 _ _ _ _ _ (by decide) fax1sch48 fax1sch43 fax1sch35 fax1sch34 (by kernel_rfl)
theorem fax1sch51 : SCH faB1 51 = 1380617036 := next_val faB1 35 _ _ _ _ _ (by decide) fax1sch49 fax1sch44 fax1sch36 fax1sch35 (by kernel_rfl)
theorem fax1sch52 : SCH faB1 52 = 3740401288 := next_val faB1 36 _ _ _ _ _ (by decide) fax1sch50 fax1sch45 fax1sch37 fax1sch36 (by kernel_rfl)
theorem fax1sch53 : SCH faB1 53 = 3490069983 := next_val faB1 37 _ _ _ _ _ (by decide) fax1sch51 fax1sch46 fax1sch38 fax1sch37 (by kernel_rfl)
theorem fax1sch54 : SCH faB1 54 = 3277659361 := next_val faB1 38 _ _ _ _ _ (by decide) fax1sch52 fax1sch47 fax1sch39 fax1sch38 (by kernel_rfl)
theorem fax1sch55 : SCH faB1 55 = 3581733188 := next_val faB1 39 _ _ _ _ _ (by decide) fax1sch53 fax1sch48 fax1sch40 fax1sch39 (by kernel_rfl)
theorem fax1sch56 : SCH faB1 56 = 4180500541 := next_val faB1 40 _ _ _ _ _ (by decide) fax1sch54 fax1sch49 fax1sch41 fax1sch40 (by kernel_rfl)
theorem fax1sch57 : SCH faB1 57 = 4151572106 := next_val faB1 41 _ _ _ _ _ (by decide) fax1sch55 fax1sch50 fax1sch42 fax1sch41 (by kernel_rfl)
theorem fax1sch58 : SCH faB1 58 = 2036484278 := next_val faB1 42 _ _ _ _ _ (by decide) fax1sch56 fax1sch51 fax1sch43 fax1sch42 (by kernel_rfl)
theorem fax1sch59 : SCH faB1 59 = 3048466945 := next_val faB1 43 _ _ _ _ _ (by decide) fax1sch57 fax1sch52 fax1sch44 fax1sch43 (by kernel_rfl)
theorem fax1sch60 : SCH faB1 60 = 229369751 := next_val faB1 44 _ _ _ _ _ (by decide) fax1sch58 fax1sch53 fax1sch45 fax1sch44 (by kernel_rfl)
theorem fax1sch61 : SCH faB1 61 = 1271992381 := next_val faB1 45 _ _ _ _ _ (by decide) fax1sch59 fax1sch54 fax1sch46 fax1sch45 (by kernel_rfl)
theorem fax1sch62 : SCH faB1 62 = 2516438927 := next_val faB1 46 _ _ _ _ _ (by decide) fax1sch60 fax1sch55 fax1sch47 fax1sch46 (by kernel_rfl)
theorem fax1sch63 : SCH faB1 63 = 3098484440 := next_val faB1 47 _ _ _ _ _ (by decide) fax1sch61 fax1sch56 fax1sch48 fax1sch47 (by kernel_rfl)
theorem fax1run0 : RUN (SCH faB1) (STOF faS1) 0 = ⟨885516176, 347660678, 2132043229, 3451093779, 4202542999, 2355559119, 3913821399, 2472438698⟩ := by kernel_rfl
theorem fax1run8 : RUN (SCH faB1) (STOF faS1) 8 = ⟨2145480134, 2745109365, 54130607, 44914068, 982521574, 202216072, 3231698415, 1206172774⟩ := round8 _ _ _ _ 0 _ _ _ _ _ _ _ _ fax1run0 fax1sch0 fax1sch1 fax1sch2 fax1sch3 fax1sch4 fax1sch5 fax1sch6 fax1sch7 (by kernel_rfl)
theorem fax1run16 : RUN (SCH faB1) (STOF faS1) 16 = ⟨459139066, 1792524960, 585703464, 2789446598, 3943361521, 3316048603, 3256756534, 4138154685⟩ := round8 _ _ _ _ 8 _ _ _ _ _ _ _ _ fax1run8 fax1sch8 fax1sch9 fax1sch10 fax1sch11 fax1sch12 fax1sch13 fax1sch14 fax1sch15 (by kernel_rfl)
theorem fax1run24 : RUN (SCH faB1) (STOF faS1) 24 = ⟨3246633176, 3233982929, 260109697, 549831290, 4214140637, 638762317, 1044114119, 3534153063⟩ := round8 _ _ _ _ 16 _ _ _ _ _ _ _ _ fax1run16 fax1sch16 fax1sch17 fax1sch18 fax1sch19 fax1sch20 fax1sch21 fax1sch22 fax1sch23 (by kernel_rfl)
theorem fax1run32 : RUN (SCH faB1) (STOF faS1) 32 = ⟨2924776139, 3178871944, 2668556111, 1082468836, 1163258850, 495215059, 3199453607, 97284708⟩ := round8 _ _ _ _ 24 _ _ _ _ _ _ _ _ fax1run24 fax1sch24 fax1sch25 fax1sch26 fax1sch27 fax1sch28 fax1sch29 fax1sch30 fax1sch31 (by kernel_rfl)
theorem fax1run40 : RUN (SCH faB1) (STOF faS1) 40 = ⟨1537782538, 2886598721, 2627817621, 2808838819, 4180570255, 229891314, 1010396101, 1993019055⟩ := round8 _ _ _ _ 32 _ _ _ _ _ _ _ _ fax1run32 fax1sch32 fax1sch33 fax1sch34 fax1sch35 fax1sch36 fax1sch37 fax1sch38 fax1sch39 (by kernel_rfl)
theorem fax1run48 : RUN (SCH faB1) (STOF faS1) 48 = ⟨1734251229, 3798529381, 628996109, 185704944, 2975615173, 3171183913, 671641256, 3272250533⟩ := round8 _ _ _ _ 40 _ _ _ _ _ _ _ _ fax1run40 fax1sch40 fax1sch41 fax1sch42 fax1sch43 fax1sch44 fax1sch45 fax1sch46 fax1sch47 (by kernel_rfl)
theorem fax1run56 : RUN (SCH faB1) (STOF faS1) 56 = ⟨2194855335, 1789775990, 1729060408, 2280292470, 3698838722, 3084550632, 472602563, 222722466⟩ := round8 _ _ _ _ 48 _ _ _ _ _ _ _ _ fax1run48 fax1sch48 fax1sch49 fax1sch50 fax1sch51 fax1sch52 fax1sch53 fax1sch54 fax1sch55 (by kernel_rfl)
theorem fax1run64 : RUN (SCH faB1) (STOF faS1) 64 = ⟨3146336029, 870656000, 277297408, 507763584, 148855715, 4030718535, 914420141, 1014224813⟩ := round8 _ _ _ _ 56 _ _ _ _ _ _ _ _ fax1run56 fax1sch56 fax1sch57 fax1sch58 fax1sch59 fax1sch60 fax1sch61 fax1sch62 fax1sch63 (by kernel_rfl)
theorem fax1out0 : OUTW faS1 faB1 0 = 4031852205 := by
  rw [OUTW, fax1run64]
  kernel_rfl
theorem fax1out1 : OUTW faS1 faB1 1 = 1218316678 := by
  rw [OUTW, fax1run64]
  kernel_rfl
theorem fax1out2 : OUTW faS1 faB1 2 = 2409340637 := by
  rw [OUTW, fax1run64]
  kernel_rfl
theorem fax1out3 : OUTW faS1 faB1 3 = 3958857363 := by
  rw [OUTW, fax1run64]
  kernel_rfl
theorem fax1out4 : OUTW faS1 faB1 4 = 56431418 := by
  rw [OUTW, fax1run64]
  kernel_rfl
theorem fax1out5 : OUTW faS1 faB1 5 = 2091310358 := by
  rw [OUTW, fax1run64]
  kernel_rfl
theorem fax1out6 : OUTW faS1 faB1 6 = 533274244 := by
  rw [OUTW, fax1run64]
  kernel_rfl
theorem fax1out7 : OUTW faS1 faB1 7 = 3486663511 := by
  rw [OUTW, fax1run64]
  kernel_rfl
theorem fax1list : (List.range 32).map (COMP 32 faS1 faB1) = [240, 81, 46, 173, 72, 158, 9, 134, 143, 155, 158, 221, 235, 247, 94, 147, 3, 93, 19, 58, 124, 166, 221, 22, 31, 201, 30, 132, 207, 210, 67, 87] := by
  rw [comp_words, fax1out0, fax1out1, fax1out2, fax1out3, fax1out4, fax1out5, fax1out6, fax1out7]
  kernel_rfl
def faS2 (i : Nat) : Nat := ([240, 81, 46, 173, 72, 158, 9, 134, 143, 155, 158, 221, 235, 247, 94, 147, 3, 93, 19, 58, 124, 166, 221, 22, 31, 201, 30, 132, 207, 210, 67, 87] : List Nat).getD i 0
theorem fax1fun : COMP 32 faS1 faB1 = faS2 := comp_fun _ _ _ fax1list rfl
theorem falen : ([2, 127, 80, 117, 78, 227, 143, 160, 51, 23, 237, 95, 254, 79, 42, 217, 20, 128, 133, 79, 170, 249, 85, 136, 108, 215, 128, 243, 116, 250, 101, 130, 246, 3, 0, 0, 0, 0, 0, 0, 0, 0, 0, 0, 0, 0, 0, 0, 0, 0, 0, 0, 0, 0, 0, 0, 0, 0, 0, 0, 0, 0, 0, 0, 0] ++ END 65).length / 64 = 2 := by rw [List.length_append, END_length]; kernel_rfl
theorem fahash : HASHOF 32 [2, 127, 80, 117, 78, 227, 143, 160, 51, 23, 237, 95, 254, 79, 42, 217, 20, 128, 133, 79, 170, 249, 85, 136, 108, 215, 128, 243, 116, 250, 101, 130, 246, 3, 0, 0, 0, 0, 0, 0, 0, 0, 0, 0, 0, 0, 0, 0, 0, 0, 0, 0, 0, 0, 0, 0, 0, 0, 0, 0, 0, 0, 0, 0, 0] = faS2 := by
  rw [hashof_len 32 [2, 127, 80, 117, 78, 227, 143, 160, 51, 23, 237, 95, 254, 79, 42, 217, 20, 128, 133, 79, 170, 249, 85, 136, 108, 215, 128, 243, 116, 250, 101, 130, 246, 3, 0, 0, 0, 0, 0, 0, 0, 0, 0, 0, 0, 0, 0, 0, 0, 0, 0, 0, 0, 0, 0, 0, 0, 0, 0, 0, 0, 0, 0, 0, 0] 65 rfl, falen, state_two]
  show COMP 32 (COMP 32 (FIRST 32) faB0) faB1 = faS2
  rw [fax0fun, fax1fun]
def fbB0 : Nat → Nat := BLK ([2, 140, 247, 78, 71, 92, 160, 227, 219, 231, 58, 126, 124, 82, 124, 196, 92, 181, 224, 216, 226, 74, 129, 106, 204, 189, 129, 14, 245, 188, 153, 135, 6, 3, 0, 0, 0, 0, 0, 0, 0, 0, 0, 0, 0, 0, 0, 0, 0, 0, 0, 0, 0, 0, 0, 0, 0, 0, 0, 0, 0, 0, 0, 0, 0] ++ END 65) 0
theorem fbx0sch0 : SCH fbB0 0 = 42792782 := (SCH_first fbB0 0 (by decide)).trans (by kernel_rfl)
theorem fbx0sch1 : SCH fbB0 1 = 1197252835 := (SCH_first fbB0 1 (by decide)).trans (by kernel_rfl)
theorem fbx0sch2 : SCH fbB0 2 = 3689364094 := (SCH_first fbB0 2 (by decide)).trans (by kernel_rfl)
theorem fbx0sch3 : SCH fbB0 3 = 2085780676 := (SCH_first fbB0 3 (by decide)).trans (by kernel_rfl)
theorem fbx0sch4 : SCH fbB0 4 = 1555423448 := (SCH_first fbB0 4 (by decide)).trans (by kernel_rfl)
theorem fbx0sch5 : SCH fbB0 5 = 3796533610 := (SCH_first fbB0 5 (by decide)).trans (by kernel_rfl)
theorem fbx0sch6 : SCH fbB0 6 = 3434971406 := (SCH_first fbB0 6 (by decide)).trans (by kernel_rfl)
theorem fbx0sch7 : SCH fbB0 7 = 4122777991 := (SCH_first fbB0 7 (by decide)).trans (by kernel_rfl)
theorem fbx0sch8 : SCH fbB0 8 = 100859904 := (SCH_first fbB0 8 (by decide)).trans (by kernel_rfl)
theorem fbx0sch9 : SCH fbB0 9 = 0 := (SCH_first fbB0 9 (by decide)).trans (by kernel_rfl)
theorem fbx0sch10 : SCH fbB0 10 = 0 := (SCH_first fbB0 10 (by decide)).trans (by kernel_rfl)
theorem fbx0sch11 : SCH fbB0 11 = 0 := (SCH_first fbB0 11 (by decide)).trans (by kernel_rfl)
theorem fbx0sch12 : SCH fbB0 12 = 0 := (SCH_first fbB0 12 (by decide)).trans (by kernel_rfl)
theorem fbx0sch13 : SCH fbB0 13 = 0 := (SCH_first fbB0 13 (by decide)).trans (by kernel_rfl)
theorem fbx0sch14 : SCH fbB0 14 = 0 := (SCH_first fbB0 14 (by decide)).trans (by kernel_rfl)
theorem fbx0sch15 : SCH fbB0 15 = 0 := (SCH_first fbB0 15 (by decide)).trans (by kernel_rfl)
theorem fbx0sch16 : SCH fbB0 16 = 3907711960 := next_val fbB0 0 _ _ _ _ _ (by decide) fbx0sch14 fbx0sch9 fbx0sch1 fbx0sch0 (by kernel_rfl)
theorem fbx0sch17 : SCH fbB0 17 = 1873887397 := next_val fbB0 1 _ _ _ _ _ (by decide) fbx0sch15 fbx0sch10 fbx0sch2 fbx0sch1 (by kernel_rfl)
theorem fbx0sch18 : SCH fbB0 18 = 467174087 := next_val fbB0 2 _ _ _ _ _ (by decide) fbx0sch16 fbx0sch11 fbx0sch3 fbx0sch2 (by kernel_rfl)
theorem fbx0sch19 : SCH fbB0 19 = 3351917625 := next_val fbB0 3 _ _ _ _ _ (by decide) fbx0sch17 fbx0sch12 fbx0sch4 fbx0sch3 (by kernel_rfl)
theorem fbx0sch20 : SCH fbB0 20 = 399177548 := next_val fbB0 4 _ _ _ _ _ (by decide) fbx0sch18 fbx0sch13 fbx0sch5 fbx0sch4 (by kernel_rfl)
theorem fbx0sch21 : SCH fbB0 21 = 2739020551 := next_val fbB0 5 _ _ _ _ _ (by decide) fbx0sch19 fbx0sch14 fbx0sch6 fbx0sch5 (by kernel_rfl)
theorem fbx0sch22 : SCH fbB0 22 = 692392987 := next_val fbB0 6 _ _ _ _ _ (by decide) fbx0sch20 fbx0sch15 fbx0sch7 fbx0sch6 (by kernel_rfl)
theorem fbx0sch23 : SCH fbB0 23 = 4114606624 := next_val fbB0 7 _ _ _ _ _ (by decide) fbx0sch21 fbx0sch16 fbx0sch8 fbx0sch7 (by kernel_rfl)
theorem fbx0sch24 : SCH fbB0 24 = 2654527860 := next_val fbB0 8 _ _ _ _ _ (by decide) fbx0sch22 fbx0sch17 fbx0sch9 fbx0sch8 (by kernel_rfl)
theorem fbx0sch25 : SCH fbB0 25 = 608284297 := next_val fbB0 9 _ _ _ _ _ (by decide) fbx0sch23 fbx0sch18 fbx0sch10 fbx0sch9 (by kernel_rfl)
theorem fbx0sch26 : SCH fbB0 26 = 880641820 := next_val fbB0 10 _ _ _ _ _ (by decide) fbx0sch24 fbx0sch19 fbx0sch11 fbx0sch10 (by kernel_rfl)
theorem fbx0sch27 : SCH fbB0 27 = 4201094671 := next_val fbB0 11 _ _ _ _ _ (by decide) fbx0sch25 fbx0sch20 fbx0sch12 fbx0sch11 (by kernel_rfl)
theorem fbx0sch28 : SCH fbB0 28 = 379758295 := next_val fbB0 12 _ _ _ _ _ (by decide) fbx0sch26 fbx0sch21 fbx0sch13 fbx0sch12 (by kernel_rfl)
theorem fbx0sch29 : SCH fbB0 29 = 1715318707 := next_val fbB0 13 _ _ _ _ _ (by decide) fbx0sch27 fbx0sch22 fbx0sch14 fbx0sch13 (by kernel_rfl)
theorem fbx0sch30 : SCH fbB0 30 = 4243893068 := next_val fbB0 14 _ _ _ _ _ (by decide) fbx0sch28 fbx0sch23 fbx0sch15 fbx0sch14 (by kernel_rfl)
theorem fbx0sch31 : SCH fbB0 31 = 279569356 := next_val fbB0 15 _ _ _ _ _ (by decide) fbx0sch29 fbx0sch24 fbx0sch16 fbx0sch15 (by kernel_rfl)
theorem fbx0sch32 : SCH fbB0 32 = 3843920040 := next_val fbB0 16 _ _ _ _ _ (by decide) fbx0sch30 fbx0sch25 fbx0sch17 fbx0sch16 (by kernel_rfl)
theorem fbx0sch33 : SCH fbB0 33 = 533188517 := next_val fbB0 17 _ _ _ _ _ (by decide) fbx0sch31 fbx0sch26 fbx0sch18 fbx0sch17 (by kernel_rfl)
theorem fbx0sch34 : SCH fbB0 34 = 1999695164 := next_val fbB0 18 _ _ _ _ _ (by decide) fbx0sch32 fbx0sch27 fbx0sch19 fbx0sch18 (by kernel_rfl)
theorem fbx0sch35 : SCH fbB0 35 = 596936685 := next_val fbB0 19 _ _ _ _ _ (by decide) fbx0sch33 fbx0sch28 fbx0sch20 fbx0sch19 (by kernel_rfl)
theorem fbx0sch36 : SCH fbB0 36 = 2099005754 := next_val fbB0 20 _ _ _ _ _ (by decide) fbx0sch34 fbx0sch29 fbx0sch21 fbx0sch20 (by kernel_rfl)
theorem fbx0sch37 : SCH fbB0 37 = 3921117670 := next_val fbB0 21 _ _ _ _ _ (by decide) fbx0sch35 fbx0sch30 fbx0sch22 fbx0sch21 (by kernel_rfl)
theorem fbx0sch38 : SCH fbB0 38 = 2371481093 := next_val fbB0 22 _ _ _ _ _ (by decide) fbx0sch36 fbx0sch31 fbx0sch23 fbx0sch22 (by kernel_rfl)
theorem fbx0sch39 : SCH fbB0 39 = 3455682871 := next_val fbB0 23 _ _ _ _ _ (by decide) fbx0sch37 fbx0sch32 fbx0sch24 fbx0sch23 (by kernel_rfl)
theorem fbx0sch40 : SCH fbB0 40 = 105173553 := next_val fbB0 24 _ _ _ _ _ (by decide) fbx0sch38 fbx0sch33 fbx0sch25 fbx0sch24 (by kernel_rfl)
theorem fbx0sch41 : SCH fbB0 41 = 4028711896 := next_val fbB0 25 _ _ _ _ _ (by decide) fbx0sch39 fbx0sch34 fbx0sch26 fbx0sch25 (by kernel_rfl)
theorem fbx0sch42 : SCH fbB0 42 = 850199627 := next_val fbB0 26 _ _ _ _ _ (by decide) fbx0sch40 fbx0sch35 fbx0sch27 fbx0sch26 (by kernel_rfl)
theorem fbx0sch43 : SCH fbB0 43 = 108800460 := next_val fbB0 27 _ _ _ _ _ (by decide) fbx0sch41 fbx0sch36 fbx0sch28 fbx0sch27 (by kernel_rfl)
theorem fbx0sch44 : SCH fbB0 44 = 618763301 := next_val fbB0 28 _ _ _ _ _ (by decide) fbx0sch42 fbx0sch37 fbx0sch29 fbx0sch28 (by kernel_rfl)
theorem fbx0sch45 : SCH fbB0 45 = 841612725 := next_val fbB0 29 _ _ _ _ _ (by decide) fbx0sch43 fbx0sch38 fbx0sch30 fbx0sch29 (by kernel_rfl)
theorem fbx0sch46 : SCH fbB0 46 = 2790567584 := next_val fbB0 30 _ _ _ _ _ (by decide) fbx0sch44 fbx0sch39 fbx0sch31 fbx0sch30 (by kernel_rfl)
theorem fbx0sch47 : SCH fbB0 47 = 26418078 := next_val fbB0 31 _ _ _ _ _ (by decide) fbx0sch45 fbx0sch40 fbx0sch32 fbx0sch31 (by kernel_rfl)
theorem fbx0sch48 : SCH fbB0 48 = 1377491173 := next_val fbB0 32 _ _ _ _ _ (by decide) fbx0sch46 fbx0sch41 fbx0sch33 fbx0sch32 (by kernel_rfl)
theorem fbx0sch49 : SCH fbB0 49 = 2390284766 := next_val fbB0 33 _ _ _ _ _ (by decide) fbx0sch47 fbx0sch42 fbx0sch34 fbx0sch33 (by kernel_rfl)
theorem fbx0sch50 : SCH fbB0 50 = 3036057111 := next_val fbB0 34 _ _ _ _ _ (by decide) fbx0sch48 fbx0sch43 fbx0sch35 fbx0sch34 (by kernel_rfl)
theorem fbx0sch51 : SCH fbB0 51 = 696538057 := next_val fbB0 35 _ _ _ _ _ (by decide) fbx0sch49 fbx0sch44 fbx0sch36 fbx0sch35 (by kernel_rfl)
theorem fbx0sch52 : SCH fbB0 52 = 1992719751 := next_val fbB0 36 _ _ _ _ _ (by decide) fbx0sch50 fbx0sch45 fbx0sch37 fbx0sch36 (by kernel_rfl)
theorem fbx0sch53 : SCH fbB0 53 = 2496982710 := next_val fbB0 37 _ _ _ _ _ (by decide) fbx0sch51 fbx0sch46 fbx0sch38 fbx0sch37 (by kernel_rfl)
theorem fbx0sch54 : SCH fbB0 54 = 2495946513 := next_val fbB0 38 _ _ _ _ _ (by decide) fbx0sch52 fbx0sch47 fbx0sch39 fbx0sch38 (by kernel_rfl)
theorem fbx0sch55 : SCH fbB0 55 = 1627742810 := next_val fbB0 39 _ _ _ _ _ (by decide) fbx0sch53 fbx0sch48 fbx0sch40 fbx0sch39 (by kernel_rfl)
theorem fbx0sch56 : SCH fbB0 56 = 3223309504 := next_val fbB0 40 _ _ _ _ _ (by decide) fbx0sch54 fbx0sch49 fbx0sch41 fbx0sch40 (by kernel_rfl)
theorem fbx0sch57 : SCH fbB0 57 = 2478327315 := next_val fbB0 41 _ _ _ _ _ (by decide) fbx0sch55 fbx0sch50 fbx0sch42 fbx0sch41 (by kernel_rfl)
theorem fbx0sch58 : SCH fbB0 58 = 246043912 := next_val fbB0 42 _ _ _ _ _ (by decide) fbx0sch56 fbx0sch51 fbx0sch43 fbx0sch42 (by kernel_rfl)
theorem fbx0sch59 : SCH fbB0 59 = 3574511009 := next_val fbB0 43 _ _ _ _ _ (by decide) fbx0sch57 fbx0sch52 fbx0sch44 fbx0sch43 (by kernel_rfl)
theorem fbx0sch60 : SCH fbB0 60 = 757682103 := next_val fbB0 44 _ _ _ _ _ (by decide) fbx0sch58 fbx0sch53 fbx0sch45 fbx0sch44 (by kernel_rfl)
theorem fbx0sch61 : SCH fbB0 61 = 3513697645 := next_val fbB0 45 _ _ _ _ _ (by decide) fbx0sch59 fbx0sch54 fbx0sch46 fbx0sch45 (by kernel_rfl)
theorem fbx0sch62 : SCH fbB0 62 = 2421624700 := next_val fbB0 46 _ _ _ _ _ (by decide) fbx0sch60 fbx0sch55 fbx0sch47 fbx0sch46 (by kernel_rfl)
theorem fbx0sch63 : SCH fbB0 63 = 4072680372 := next_val fbB0 47 _ _ _ _ _ (by decide) fbx0sch61 fbx0sch56 fbx0sch48 fbx0sch47 (by kernel_rfl)
theorem fbx0run0 : RUN (SCH fbB0) (STOF (FIRST 32)) 0 = ⟨1779033703, 3144134277, 1013904242, 2773480762, 1359893119, 2600822924, 528734635, 1541459225⟩ := by kernel_rfl
theorem fbx0run8 : RUN (SCH fbB0) (STOF (FIRST 32)) 8 = ⟨3595194736, 1003655295, 3078645448, 327833828, 1875682282, 3471593177, 130107501, 2371971147⟩ := round8 _ _ _ _ 0 _ _ _ _ _ _ _ _ fbx0run0 fbx0sch0 fbx0sch1 fbx0sch2 fbx0sch3 fbx0sch4 fbx0sch5 fbx0sch6 fbx0sch7 (by kernel_rfl)
theorem fbx0run16 : RUN (SCH fbB0) (STOF (FIRST 32)) 16 = ⟨87859176, 765803334, 3868671281, 3395048754, 2006812102, 1349598558, 121352002, 3655281836⟩ := round8 _ _ _ _ 8 _ _ _ _ _ _ _ _ fbx0run8 fbx0sch8 fbx0sch9 fbx0sch10 fbx0sch11 fbx0sch12 fbx0sch13 fbx0sch14 fbx0sch15 (by kernel_rfl)
theorem fbx0run24 : RUN (SCH fbB0) (STOF (FIRST 32)) 24 = ⟨2313998590, 4116401133, 2532277752, 500012253, 1821984086, 4217363276, 177844111, 1222396117⟩ := round8 _ _ _ _ 16 _ _ _ _ _ _ _ _ fbx0run16 fbx0sch16 fbx0sch17 fbx0sch18 fbx0sch19 fbx0sch20 fbx0sch21 fbx0sch22 fbx0sch23 (by kernel_rfl)
theorem fbx0run32 : RUN (SCH fbB0) (STOF (FIRST 32)) 32 = ⟨3210561131, 325726319, 2796815814, 1280427258, 2648400340, 146266830, 4244687581, 3843304325⟩ := round8 _ _ _ _ 24 _ _ _ _ _ _ _ _ fbx0run24 fbx0sch24 fbx0sch25 fbx0sch26 fbx0sch27 fbx0sch28 fbx0sch29 fbx0sch30 fbx0sch31 (by kernel_rfl)
theorem fbx0run40 : RUN (SCH fbB0) (STOF (FIRST 32)) 40 = ⟨846148032, 1612098865, 2833784501, 2196138261, 1922046047, 1914620904, 1339875601, 839745321⟩ := round8 _ _ _ _ 32 _ _ _ _ _ _ _ _ fbx0run32 fbx0sch32 fbx0sch33 fbx0sch34 fbx0sch35 fbx0sch36 fbx0sch37 fbx0sch38 fbx0sch39 (by kernel_rfl)
theorem fbx0run48 : RUN (SCH fbB0) (STOF (FIRST 32)) 48 = ⟨1843804750, 640582416, 1214481529, 2189694413, 4101303326, 3857653027, 1795122792, 4158729229⟩ := round8 _ _ _ _ 40 _ _ _ _ _ _ _ _ fbx0run40 fbx0sch40 fbx0sch41 fbx0sch42 fbx0sch43 fbx0sch44 fbx0sch45 fbx0sch46 fbx0sch47 (by kernel_rfl)
theorem fbx0run56 : RUN (SCH fbB0) (STOF (FIRST 32)) 56 = ⟨831469928, 178129092, 26502009, 2387821166, 880512660, 2987107113, 766877497, 1805085095⟩ := round8 _ _ _ _ 48 _ _ _ _ _ _ _ _ fbx0run48 fbx0sch48 fbx0sch49 fbx0sch50 fbx0sch51 fbx0sch52 fbx0sch53 fbx0sch54 fbx0sch55 (by kernel_rfl)
theorem fbx0run64 : RUN (SCH fbB0) (STOF (FIRST 32)) 64 = ⟨2103809421, 573572350, 1579496801, 2132408433, 3076620076, 18450271, 2741490830, 3825374159⟩ := round8 _ _ _ _ 56 _ _ _ _ _ _ _ _ fbx0run56 fbx0sch56 fbx0sch57 fbx0sch58 fbx0sch59 fbx0sch60 fbx0sch61 fbx0sch62 fbx0sch63 (by kernel_rfl)
theorem fbx0out0 : OUTW (FIRST 32) fbB0 0 = 3882843124 := by
  rw [OUTW, fbx0run64]
  kernel_rfl
theorem fbx0out1 : OUTW (FIRST 32) fbB0 1 = 3717706627 := by
  rw [OUTW, fbx0run64]
  kernel_rfl
theorem fbx0out2 : OUTW (FIRST 32) fbB0 2 = 2593401043 := by
  rw [OUTW, fbx0run64]
  kernel_rfl
theorem fbx0out3 : OUTW (FIRST 32) fbB0 3 = 610921899 := by
  rw [OUTW, fbx0run64]
  kernel_rfl
theorem fbx0out4 : OUTW (FIRST 32) fbB0 4 = 141545899 := by
  rw [OUTW, fbx0run64]
  kernel_rfl
theorem fbx0out5 : OUTW (FIRST 32) fbB0 5 = 2619273195 := by
  rw [OUTW, fbx0run64]
  kernel_rfl
theorem fbx0out6 : OUTW (FIRST 32) fbB0 6 = 3270225465 := by
  rw [OUTW, fbx0run64]
  kernel_rfl
theorem fbx0out7 : OUTW (FIRST 32) fbB0 7 = 1071866088 := by
  rw [OUTW, fbx0run64]
  kernel_rfl
theorem fbx0list : (List.range 32).map (COMP 32 (FIRST 32) fbB0) = [231, 111, 123, 244, 221, 151, 179, 131, 154, 148, 40, 211, 36, 105, 237, 171, 8, 111, 209, 171, 156, 30, 239, 235, 194, 235, 174, 57, 63, 227, 96, 232] := by
  rw [comp_words, fbx0out0, fbx0out1, fbx0out2, fbx0out3, fbx0out4, fbx0out5, fbx0out6, fbx0out7]
  kernel_rfl
def fbS1 (i : Nat) : Nat := ([231, 111, 123, 244, 221, 151, 179, 131, 154, 148, 40, 211, 36, 105, 237, 171, 8, 111, 209, 171, 156, 30, 239, 235, 194, 235, 174, 57, 63, 227, 96, 232] : List Nat).getD i 0
theorem fbx0fun : COMP 32 (FIRST 32) fbB0 = fbS1 := comp_fun _ _ _ fbx0list rfl
def fbB1 : Nat → Nat := BLK ([2, 140, 247, 78, 71, 92, 160, 227, 219, 231, 58, 126, 124, 82, 124, 196, 92, 181, 224, 216, 226, 74, 129, 106, 204, 189, 129, 14, 245, 188, 153, 135, 6, 3, 0, 0, 0, 0, 0, 0, 0, 0, 0, 0, 0, 0, 0, 0, 0, 0, 0, 0, 0, 0, 0, 0, 0, 0, 0, 0, 0, 0, 0, 0, 0] ++ END 65) 1
theorem fbx1sch0 : SCH fbB1 0 = 8388608 := (SCH_first fbB1 0 (by decide)).trans (by kernel_rfl)
theorem fbx1sch1 : SCH fbB1 1 = 0 := (SCH_first fbB1 1 (by decide)).trans (by kernel_rfl)
theorem fbx1sch2 : SCH fbB1 2 = 0 := (SCH_first fbB1 2 (by decide)).trans (by kernel_rfl)
theorem fbx1sch3 : SCH fbB1 3 = 0 := (SCH_first fbB1 3 (by decide)).trans (by kernel_rfl)
theorem fbx1sch4 : SCH fbB1 4 = 0 := (SCH_first fbB1 4 (by decide)).trans (by kernel_rfl)
theorem fbx1sch5 : SCH fbB1 5 = 0 := (SCH_first fbB1 5 (by decide)).trans (by kernel_rfl)
theorem fbx1sch6 : SCH fbB1 6 = 0 := (SCH_first fbB1 6 (by decide)).trans (by kernel_rfl)
theorem fbx1sch7 : SCH fbB1 7 = 0 := (SCH_first fbB1 7 (by decide)).trans (by kernel_rfl)
theorem fbx1sch8 : SCH fbB1 8 = 0 := (SCH_first fbB1 8 (by decide)).trans (by kernel_rfl)
theorem fbx1sch9 : SCH fbB1 9 = 0 := (SCH_first fbB1 9 (by decide)).trans (by kernel_rfl)
theorem fbx1sch10 : SCH fbB1 10 = 0 := (SCH_first fbB1 10 (by decide)).trans (by kernel_rfl)
theorem fbx1sch11 : SCH fbB1 11 = 0 := (SCH_first fbB1 11 (by decide)).trans (by kernel_rfl)
theorem fbx1sch12 : SCH fbB1 12 = 0 := (SCH_first fbB1 12 (by decide)).trans (by kernel_rfl)
theorem fbx1sch13 : SCH fbB1 13 = 0 := (SCH_first fbB1 13 (by decide)).trans (by kernel_rfl)
theorem fbx1sch14 : SCH fbB1 14 = 0 := (SCH_first fbB1 14 (by decide)).trans (by kernel_rfl)
theorem fbx1sch15 : SCH fbB1 15 = 520 := (SCH_first fbB1 15 (by decide)).trans (by kernel_rfl)
theorem fbx1sch16 : SCH fbB1 16 = 8388608 := next_val fbB1 0 _ _ _ _ _ (by decide) fbx1sch14 fbx1sch9 fbx1sch1 fbx1sch0 (by kernel_rfl)
theorem fbx1sch17 : SCH fbB1 17 = 21299200 := next_val fbB1 1 _ _ _ _ _ (by decide) fbx1sch15 fbx1sch10 fbx1sch2 fbx1sch1 (by kernel_rfl)
theorem fbx1sch18 : SCH fbB1 18 = 8272 := next_val fbB1 2 _ _ _ _ _ (by decide) fbx1sch16 fbx1sch11 fbx1sch3 fbx1sch2 (by kernel_rfl)
theorem fbx1sch19 : SCH fbB1 19 = 536891850 := next_val fbB1 3 _ _ _ _ _ (by decide) fbx1sch17 fbx1sch12 fbx1sch4 fbx1sch3 (by kernel_rfl)
theorem fbx1sch20 : SCH fbB1 20 = 337772552 := next_val fbB1 4 _ _ _ _ _ (by decide) fbx1sch18 fbx1sch13 fbx1sch5 fbx1sch4 (by kernel_rfl)
theorem fbx1sch21 : SCH fbB1 21 = 584340500 := next_val fbB1 5 _ _ _ _ _ (by decide) fbx1sch19 fbx1sch14 fbx1sch6 fbx1sch5 (by kernel_rfl)
theorem fbx1sch22 : SCH fbB1 22 = 1073742365 := next_val fbB1 6 _ _ _ _ _ (by decide) fbx1sch20 fbx1sch15 fbx1sch7 fbx1sch6 (by kernel_rfl)
theorem fbx1sch23 : SCH fbB1 23 = 2701140005 := next_val fbB1 7 _ _ _ _ _ (by decide) fbx1sch21 fbx1sch16 fbx1sch8 fbx1sch7 (by kernel_rfl)
theorem fbx1sch24 : SCH fbB1 24 = 44173312 := next_val fbB1 8 _ _ _ _ _ (by decide) fbx1sch22 fbx1sch17 fbx1sch9 fbx1sch8 (by kernel_rfl)
theorem fbx1sch25 : SCH fbB1 25 = 339625208 := next_val fbB1 9 _ _ _ _ _ (by decide) fbx1sch23 fbx1sch18 fbx1sch10 fbx1sch9 (by kernel_rfl)
theorem fbx1sch26 : SCH fbB1 26 = 1694563153 := next_val fbB1 10 _ _ _ _ _ (by decide) fbx1sch24 fbx1sch19 fbx1sch11 fbx1sch10 (by kernel_rfl)
theorem fbx1sch27 : SCH fbB1 27 = 4278716177 := next_val fbB1 11 _ _ _ _ _ (by decide) fbx1sch25 fbx1sch20 fbx1sch12 fbx1sch11 (by kernel_rfl)
theorem fbx1sch28 : SCH fbB1 28 = 2242916914 := next_val fbB1 12 _ _ _ _ _ (by decide) fbx1sch26 fbx1sch21 fbx1sch13 fbx1sch12 (by kernel_rfl)
theorem fbx1sch29 : SCH fbB1 29 = 1129645185 := next_val fbB1 13 _ _ _ _ _ (by decide) fbx1sch27 fbx1sch22 fbx1sch14 fbx1sch13 (by kernel_rfl)
theorem fbx1sch30 : SCH fbB1 30 = 3506478796 := next_val fbB1 14 _ _ _ _ _ (by decide) fbx1sch28 fbx1sch23 fbx1sch15 fbx1sch14 (by kernel_rfl)
theorem fbx1sch31 : SCH fbB1 31 = 628319913 := next_val fbB1 15 _ _ _ _ _ (by decide) fbx1sch29 fbx1sch24 fbx1sch16 fbx1sch15 (by kernel_rfl)
theorem fbx1sch32 : SCH fbB1 32 = 2977178064 := next_val fbB1 16 _ _ _ _ _ (by decide) fbx1sch30 fbx1sch25 fbx1sch17 fbx1sch16 (by kernel_rfl)
theorem fbx1sch33 : SCH fbB1 33 = 3991071337 := next_val fbB1 17 _ _ _ _ _ (by decide) fbx1sch31 fbx1sch26 fbx1sch18 fbx1sch17 (by kernel_rfl)
theorem fbx1sch34 : SCH fbB1 34 = 406371735 := next_val fbB1 18 _ _ _ _ _ (by decide) fbx1sch32 fbx1sch27 fbx1sch19 fbx1sch18 (by kernel_rfl)
theorem fbx1sch35 : SCH fbB1 35 = 1621178620 := next_val fbB1 19 _ _ _ _ _ (by decide) fbx1sch33 fbx1sch28 fbx1sch20 fbx1sch19 (by kernel_rfl)
theorem fbx1sch36 : SCH fbB1 36 = 3658518620 := next_val fbB1 20 _ _ _ _ _ (by decide) fbx1sch34 fbx1sch29 fbx1sch21 fbx1sch20 (by kernel_rfl)
theorem fbx1sch37 : SCH fbB1 37 = 3780499249 := next_val fbB1 21 _ _ _ _ _ (by decide) fbx1sch35 fbx1sch30 fbx1sch22 fbx1sch21 (by kernel_rfl)
theorem fbx1sch38 : SCH fbB1 38 = 384976696 := next_val fbB1 22 _ _ _ _ _ (by decide) fbx1sch36 fbx1sch31 fbx1sch23 fbx1sch22 (by kernel_rfl)
theorem fbx1sch39 : SCH fbB1 39 = 638312866 := next_val fbB1 23 _ _ _ _ _ (by decide) fbx1sch37 fbx1sch32 fbx1sch24 fbx1sch23 (by kernel_rfl)
theorem fbx1sch40 : SCH fbB1 40 = 3214235832 := next_val fbB1 24 _ _ _ _ _ (by decide) fbx1sch38 fbx1sch33 fbx1sch25 fbx1sch24 (by kernel_rfl)
theorem fbx1sch41 : SCH fbB1 41 = 1243750311 := next_val fbB1 25 _ _ _ _ _ (by decide) fbx1sch39 fbx1sch34 fbx1sch26 fbx1sch25 (by kernel_rfl)
theorem fbx1sch42 : SCH fbB1 42 = 182604009 := next_val fbB1 26 _ _ _ _ _ (by decide) fbx1sch40 fbx1sch35 fbx1sch27 fbx1sch26 (by kernel_rfl)
theorem fbx1sch43 : SCH fbB1 43 = 2659197837 := next_val fbB1 27 _ _ _ _ _ (by decide) fbx1sch41 fbx1sch36 fbx1sch28 fbx1sch27 (by kernel_rfl)
theorem fbx1sch44 : SCH fbB1 44 = 356352104 := next_val fbB1 28 _ _ _ _ _ (by decide) fbx1sch42 fbx1sch37 fbx1sch29 fbx1sch28 (by kernel_rfl)
theorem fbx1sch45 : SCH fbB1 45 = 336154357 := next_val fbB1 29 _ _ _ _ _ (by decide) fbx1sch43 fbx1sch38 fbx1sch30 fbx1sch29 (by kernel_rfl)
theorem fbx1sch46 : SCH fbB1 46 = 4137126667 := next_val fbB1 30 _ _ _ _ _ (by decide) fbx1sch44 fbx1sch39 fbx1sch31 fbx1sch30 (by kernel_rfl)
theorem fbx1sch47 : SCH fbB1 47 = 853682779 := next_val fbB1 31 _ _ _ _ _ (by decide) fbx1sch45 fbx1sch40 fbx1sch32 fbx1sch31 (by kernel_rfl)
theorem fbx1sch48 : SCH fbB1 48 = 2775401939 := next_val fbB1 32 _ _ _ _ _ (by decide) fbx1sch46 fbx1sch41 fbx1sch33 fbx1sch32 (by kernel_rfl)
theorem fbx1sch49 : SCH fbB1 49 = 1266820032 := next_val fbB1 33 _ _ _ _ _ (by decide) fbx1sch47 fbx1sch42 fbx1sch34 fbx1sch33 (by kernel_rfl)
theorem fbx1sch50 : SCH fbB1 50 = 2082364340 := next_val fbB1 34 _ _ _ _ _ (by decide) fbx1sch48 fbx1sch43 fbx1sch35 fbx1sch34 (by kernel_rfl)
theorem fbx1sch51 : SCH fbB1 51 = 1380617036 := next_val fbB1 35 _ _ _ _ _ (by decide) fbx1sch49 fbx1sch44 fbx1sch36 fbx1sch35 (by kernel_rfl)
theorem fbx1sch52 : SCH fbB1 52 = 3740401288 := next_val fbB1 36 _ _ _ _ _ (by decide) fbx1sch50 fbx1sch45 fbx1sch37 fbx1sch36 (by kernel_rfl)
theorem fbx1sch53 : SCH fbB1 53 = 3490069983 := next_val fbB1 37 _ _ _ _ _ (by decide) fbx1sch51 fbx1sch46 fbx1sch38 fbx1sch37 (by kernel_rfl)
theorem fbx1sch54 : SCH fbB1 54 = 3277659361 := next_val fbB1 38 _ _ _ _ _ (by decide) fbx1sch52 fbx1sch47 fbx1sch39 fbx1sch38 (by kernel_rfl)
theorem fbx1sch55 : SCH fbB1 55 = 3581733188 := next_val fbB1 39 _ _ _ _ _ (by decide) fbx1sch53 fbx1sch48 fbx1sch40 fbx1sch39 (by kernel_rfl)
theorem fbx1sch56 : SCH fbB1 56 = 4180500541 := next_val fbB1 40 _ _ _ _ _ (by decide) fbx1sch54 fbx1sch49 fbx1sch41 fbx1sch40 (by kernel_rfl)
theorem fbx1sch57 : SCH fbB1 57 = 4151572106 := next_val fbB1 41 _ _ _ _ _ (by decide) fbx1sch55 fbx1sch50 fbx1sch42 fbx1sch41 (by kernel_rfl)
theorem fbx1sch58 : SCH fbB1 58 = 2036484278 := next_val fbB1 42 _ _ _ _ _ (by decide) fbx1sch56 fbx1sch51 fbx1sch43 fbx1sch42 (by kernel_rfl)
theorem fbx1sch59 : SCH fbB1 59 = 3048466945 := next_val fbB1 43 _ _ _ _ _ (by decide) fbx1sch57 fbx1sch52 fbx1sch44 fbx1sch43 (by kernel_rfl)
theorem fbx1sch60 : SCH fbB1 60 = 229369751 := next_val fbB1 44 _ _ _ _ _ (by decide) fbx1sch58 fbx1sch53 fbx1sch45 fbx1sch44 (by kernel_rfl)
theorem fbx1sch61 : SCH fbB1 61 = 1271992381 := next_val fbB1 45 _ _ _ _ _ (by decide) fbx1sch59 fbx1sch54 fbx1sch46 fbx1sch45 (by kernel_rfl)
theorem fbx1sch62 : SCH fbB1 62 = 2516438927 := next_val fbB1 46 _ _ _ _ _ (by decide) fbx1sch60 fbx1sch55 fbx1sch47 fbx1sch46 (by kernel_rfl)
theorem fbx1sch63 : SCH fbB1 63 = 3098484440 := next_val fbB1 47 _ _ _ _ _ (by decide) fbx1sch61 fbx1sch56 fbx1sch48 fbx1sch47 (by kernel_rfl)
theorem fbx1run0 : RUN (SCH fbB1) (STOF fbS1) 0 = ⟨3882843124, 3717706627, 2593401043, 610921899, 141545899, 2619273195, 3270225465, 1071866088⟩ := by kernel_rfl
theorem fbx1run8 : RUN (SCH fbB1) (STOF fbS1) 8 = ⟨2754792899, 2938138546, 1960545785, 708195608, 1878471159, 710971456, 3502935189, 2586023717⟩ := round8 _ _ _ _ 0 _ _ _ _ _ _ _ _ fbx1run0 fbx1sch0 fbx1sch1 fbx1sch2 fbx1sch3 fbx1sch4 fbx1sch5 fbx1sch6 fbx1sch7 (by kernel_rfl)
theorem fbx1run16 : RUN (SCH fbB1) (STOF fbS1) 16 = ⟨3047921114, 1304448517, 3244451117, 1220394367, 991762110, 1017837965, 4255975345, 2721839459⟩ := round8 _ _ _ _ 8 _ _ _ _ _ _ _ _ fbx1run8 fbx1sch8 fbx1sch9 fbx1sch10 fbx1sch11 fbx1sch12 fbx1sch13 fbx1sch14 fbx1sch15 (by kernel_rfl)
theorem fbx1run24 : RUN (SCH fbB1) (STOF fbS1) 24 = ⟨4237007564, 200354743, 1889406596, 138242281, 3767322811, 3145464813, 3124723053, 3769439437⟩ := round8 _ _ _ _ 16 _ _ _ _ _ _ _ _ fbx1run16 fbx1sch16 fbx1sch17 fbx1sch18 fbx1sch19 fbx1sch20 fbx1sch21 fbx1sch22 fbx1sch23 (by kernel_rfl)
theorem fbx1run32 : RUN (SCH fbB1) (STOF fbS1) 32 = ⟨1204682155, 1450416254, 588541051, 2141056235, 1843907012, 3457529688, 395554409, 917492489⟩ := round8 _ _ _ _ 24 _ _ _ _ _ _ _ _ fbx1run24 fbx1sch24 fbx1sch25 fbx1sch26 fbx1sch27 fbx1sch28 fbx1sch29 fbx1sch30 fbx1sch31 (by kernel_rfl)
theorem fbx1run40 : RUN (SCH fbB1) (STOF fbS1) 40 = ⟨301190332, 3989638806, 1926414034, 2981251163, 208116480, 3490620144, 2607977571, 3003072932⟩ := round8 _ _ _ _ 32 _ _ _ _ _ _ _ _ fbx1run32 fbx1sch32 fbx1sch33 fbx1sch34 fbx1sch35 fbx1sch36 fbx1sch37 fbx1sch38 fbx1sch39 (by kernel_rfl)
theorem fbx1run48 : RUN (SCH fbB1) (STOF fbS1) 48 = ⟨2312867871, 410970740, 1131362817, 3298174270, 1531428824, 2521364864, 4059164103, 1403663893⟩ := round8 _ _ _ _ 40 _ _ _ _ _ _ _ _ fbx1run40 fbx1sch40 fbx1sch41 fbx1sch42 fbx1sch43 fbx1sch44 fbx1sch45 fbx1sch46 fbx1sch47 (by kernel_rfl)
theorem fbx1run56 : RUN (SCH fbB1) (STOF fbS1) 56 = ⟨3979363103, 3797022641, 2078949050, 4072511703, 3980246304, 3401481123, 3924641025, 1161504523⟩ := round8 _ _ _ _ 48 _ _ _ _ _ _ _ _ fbx1run48 fbx1sch48 fbx1sch49 fbx1sch50 fbx1sch51 fbx1sch52 fbx1sch53 fbx1sch54 fbx1sch55 (by kernel_rfl)
theorem fbx1run64 : RUN (SCH fbB1) (STOF fbS1) 64 = ⟨3172600413, 594182284, 1448968646, 3993463877, 310646394, 3296205395, 778148780, 2103127163⟩ := round8 _ _ _ _ 56 _ _ _ _ _ _ _ _ fbx1run56 fbx1sch56 fbx1sch57 fbx1sch58 fbx1sch59 fbx1sch60 fbx1sch61 fbx1sch62 fbx1sch63 (by kernel_rfl)
theorem fbx1out0 : OUTW fbS1 fbB1 0 = 2760476241 := by
  rw [OUTW, fbx1run64]
  kernel_rfl
theorem fbx1out1 : OUTW fbS1 fbB1 1 = 16921615 := by
  rw [OUTW, fbx1run64]
  kernel_rfl
theorem fbx1out2 : OUTW fbS1 fbB1 2 = 4042369689 := by
  rw [OUTW, fbx1run64]
  kernel_rfl
theorem fbx1out3 : OUTW fbS1 fbB1 3 = 309418480 := by
  rw [OUTW, fbx1run64]
  kernel_rfl
theorem fbx1out4 : OUTW fbS1 fbB1 4 = 452192293 := by
  rw [OUTW, fbx1run64]
  kernel_rfl
theorem fbx1out5 : OUTW fbS1 fbB1 5 = 1620511294 := by
  rw [OUTW, fbx1run64]
  kernel_rfl
theorem fbx1out6 : OUTW fbS1 fbB1 6 = 4048374245 := by
  rw [OUTW, fbx1run64]
  kernel_rfl
theorem fbx1out7 : OUTW fbS1 fbB1 7 = 3174993251 := by
  rw [OUTW, fbx1run64]
  kernel_rfl
theorem fbx1list : (List.range 32).map (COMP 32 fbS1 fbB1) = [164, 137, 134, 81, 1, 2, 52, 15, 240, 241, 170, 153, 18, 113, 89, 240, 26, 243, 232, 37, 96, 151, 10, 62, 241, 77, 73, 229, 189, 62, 141, 99] := by
  rw [comp_words, fbx1out0, fbx1out1, fbx1out2, fbx1out3, fbx1out4, fbx1out5, fbx1out6, fbx1out7]
  kernel_rfl
def fbS2 (i : Nat) : Nat := ([164, 137, 134, 81, 1, 2, 52, 15, 240, 241, 170, 153, 18, 113, 89, 240, 26, 243, 232, 37, 96, 151, 10, 62, 241, 77, 73, 229, 189, 62, 141, 99] : List Nat).getD i 0
theorem fbx1fun : COMP 32 fbS1 fbB1 = fbS2 := comp_fun _ _ _ fbx1list rfl
theorem fblen : ([2, 140, 247, 78, 71, 92, 160, 227, 219, 231, 58, 126, 124, 82, 124, 196, 92, 181, 224, 216, 226, 74, 129, 106, 204, 189, 129, 14, 245, 188, 153, 135, 6, 3, 0, 0, 0, 0, 0, 0, 0, 0, 0, 0, 0, 0, 0, 0, 0, 0, 0, 0, 0, 0, 0, 0, 0, 0, 0, 0, 0, 0, 0, 0, 0] ++ END 65).length / 64 = 2 := by rw [List.length_append, END_length]; kernel_rfl
theorem fbhash : HASHOF 32 [2, 140, 247, 78, 71, 92, 160, 227, 219, 231, 58, 126, 124, 82, 124, 196, 92, 181, 224, 216, 226, 74, 129, 106, 204, 189, 129, 14, 245, 188, 153, 135, 6, 3, 0, 0, 0, 0, 0, 0, 0, 0, 0, 0, 0, 0, 0, 0, 0, 0, 0, 0, 0, 0, 0, 0, 0, 0, 0, 0, 0, 0, 0, 0, 0] = fbS2 := by
  rw [hashof_len 32 [2, 140, 247, 78, 71, 92, 160, 227, 219, 231, 58, 126, 124, 82, 124, 196, 92, 181, 224, 216, 226, 74, 129, 106, 204, 189, 129, 14, 245, 188, 153, 135, 6, 3, 0, 0, 0, 0, 0, 0, 0, 0, 0, 0, 0, 0, 0, 0, 0, 0, 0, 0, 0, 0, 0, 0, 0, 0, 0, 0, 0, 0, 0, 0, 0] 65 rfl, fblen, state_two]
  show COMP 32 (COMP 32 (FIRST 32) fbB0) fbB1 = fbS2
  rw [fbx0fun, fbx1fun]
def raB0 : Nat → Nat := BLK ([3, 0, 0, 0, 0, 0, 0, 0, 3, 240, 81, 46, 173, 72, 158, 9, 134, 143, 155, 158, 221, 235, 247, 94, 147, 3, 93, 19, 58, 124, 166, 221, 22, 31, 201, 30, 132, 207, 210, 67, 87] ++ END 41) 0
theorem rax0sch0 : SCH raB0 0 = 50331648 := (SCH_first raB0 0 (by decide)).trans (by kernel_rfl)
theorem rax0sch1 : SCH raB0 1 = 0 := (SCH_first raB0 1 (by decide)).trans (by kernel_rfl)
theorem rax0sch2 : SCH raB0 2 = 66081070 := (SCH_first raB0 2 (by decide)).trans (by kernel_rfl)
theorem rax0sch3 : SCH raB0 3 = 2907217417 := (SCH_first raB0 3 (by decide)).trans (by kernel_rfl)
theorem rax0sch4 : SCH raB0 4 = 2257558430 := (SCH_first raB0 4 (by decide)).trans (by kernel_rfl)
theorem rax0sch5 : SCH raB0 5 = 3723229022 := (SCH_first raB0 5 (by decide)).trans (by kernel_rfl)
theorem rax0sch6 : SCH raB0 6 = 2466471187 := (SCH_first raB0 6 (by decide)).trans (by kernel_rfl)
theorem rax0sch7 : SCH raB0 7 = 981247709 := (SCH_first raB0 7 (by decide)).trans (by kernel_rfl)
theorem rax0sch8 : SCH raB0 8 = 371181854 := (SCH_first raB0 8 (by decide)).trans (by kernel_rfl)
theorem rax0sch9 : SCH raB0 9 = 2228212291 := (SCH_first raB0 9 (by decide)).trans (by kernel_rfl)
theorem rax0sch10 : SCH raB0 10 = 1468006400 := (SCH_first raB0 10 (by decide)).trans (by kernel_rfl)
theorem rax0sch11 : SCH raB0 11 = 0 := (SCH_first raB0 11 (by decide)).trans (by kernel_rfl)
theorem rax0sch12 : SCH raB0 12 = 0 := (SCH_first raB0 12 (by decide)).trans (by kernel_rfl)
theorem rax0sch13 : SCH raB0 13 = 0 := (SCH_first raB0 13 (by decide)).trans (by kernel_rfl)
theorem rax0sch14 : SCH raB0 14 = 0 := (SCH_first raB0 14 (by decide)).trans (by kernel_rfl)
theorem rax0sch15 : SCH raB0 15 = 328 := (SCH_first raB0 15 (by decide)).trans (by kernel_rfl)
theorem rax0sch16 : SCH raB0 16 = 2278543939 := next_val raB0 0 _ _ _ _ _ (by decide) rax0sch14 rax0sch9 rax0sch1 rax0sch0 (by kernel_rfl)
theorem rax0sch17 : SCH raB0 17 = 2688510587 := next_val raB0 1 _ _ _ _ _ (by decide) rax0sch15 rax0sch10 rax0sch2 rax0sch1 (by kernel_rfl)
theorem rax0sch18 : SCH raB0 18 = 950696903 := next_val raB0 2 _ _ _ _ _ (by decide) rax0sch16 rax0sch11 rax0sch3 rax0sch2 (by kernel_rfl)
theorem rax0sch19 : SCH raB0 19 = 3504248754 := next_val raB0 3 _ _ _ _ _ (by decide) rax0sch17 rax0sch12 rax0sch4 rax0sch3 (by kernel_rfl)
theorem rax0sch20 : SCH raB0 20 = 1425411067 := next_val raB0 4 _ _ _ _ _ (by decide) rax0sch18 rax0sch13 rax0sch5 rax0sch4 (by kernel_rfl)
theorem rax0sch21 : SCH raB0 21 = 1493796615 := next_val raB0 5 _ _ _ _ _ (by decide) rax0sch19 rax0sch14 rax0sch6 rax0sch5 (by kernel_rfl)
theorem rax0sch22 : SCH raB0 22 = 3962011339 := next_val raB0 6 _ _ _ _ _ (by decide) rax0sch20 rax0sch15 rax0sch7 rax0sch6 (by kernel_rfl)
theorem rax0sch23 : SCH raB0 23 = 2187969050 := next_val raB0 7 _ _ _ _ _ (by decide) rax0sch21 rax0sch16 rax0sch8 rax0sch7 (by kernel_rfl)
theorem rax0sch24 : SCH raB0 24 = 1776761536 := next_val raB0 8 _ _ _ _ _ (by decide) rax0sch22 rax0sch17 rax0sch9 rax0sch8 (by kernel_rfl)
theorem rax0sch25 : SCH raB0 25 = 2705846003 := next_val raB0 9 _ _ _ _ _ (by decide) rax0sch23 rax0sch18 rax0sch10 rax0sch9 (by kernel_rfl)
theorem rax0sch26 : SCH raB0 26 = 2726352819 := next_val raB0 10 _ _ _ _ _ (by decide) rax0sch24 rax0sch19 rax0sch11 rax0sch10 (by kernel_rfl)
theorem rax0sch27 : SCH raB0 27 = 1602617707 := next_val raB0 11 _ _ _ _ _ (by decide) rax0sch25 rax0sch20 rax0sch12 rax0sch11 (by kernel_rfl)
theorem rax0sch28 : SCH raB0 28 = 3390082092 := next_val raB0 12 _ _ _ _ _ (by decide) rax0sch26 rax0sch21 rax0sch13 rax0sch12 (by kernel_rfl)
theorem rax0sch29 : SCH raB0 29 = 2897650814 := next_val raB0 13 _ _ _ _ _ (by decide) rax0sch27 rax0sch22 rax0sch14 rax0sch13 (by kernel_rfl)
theorem rax0sch30 : SCH raB0 30 = 1784494766 := next_val raB0 14 _ _ _ _ _ (by decide) rax0sch28 rax0sch23 rax0sch15 rax0sch14 (by kernel_rfl)
theorem rax0sch31 : SCH raB0 31 = 1407807115 := next_val raB0 15 _ _ _ _ _ (by decide) rax0sch29 rax0sch24 rax0sch16 rax0sch15 (by kernel_rfl)
theorem rax0sch32 : SCH raB0 32 = 2634656757 := next_val raB0 16 _ _ _ _ _ (by decide) rax0sch30 rax0sch25 rax0sch17 rax0sch16 (by kernel_rfl)
theorem rax0sch33 : SCH raB0 33 = 4107686309 := next_val raB0 17 _ _ _ _ _ (by decide) rax0sch31 rax0sch26 rax0sch18 rax0sch17 (by kernel_rfl)
theorem rax0sch34 : SCH raB0 34 = 1395300463 := next_val raB0 18 _ _ _ _ _ (by decide) rax0sch32 rax0sch27 rax0sch19 rax0sch18 (by kernel_rfl)
theorem rax0sch35 : SCH raB0 35 = 4237594008 := next_val raB0 19 _ _ _ _ _ (by decide) rax0sch33 rax0sch28 rax0sch20 rax0sch19 (by kernel_rfl)
theorem rax0sch36 : SCH raB0 36 = 2234396539 := next_val raB0 20 _ _ _ _ _ (by decide) rax0sch34 rax0sch29 rax0sch21 rax0sch20 (by kernel_rfl)
theorem rax0sch37 : SCH raB0 37 = 4036321501 := next_val raB0 21 _ _ _ _ _ (by decide) rax0sch35 rax0sch30 rax0sch22 rax0sch21 (by kernel_rfl)
theorem rax0sch38 : SCH raB0 38 = 1750348396 := next_val raB0 22 _ _ _ _ _ (by decide) rax0sch36 rax0sch31 rax0sch23 rax0sch22 (by kernel_rfl)
theorem rax0sch39 : SCH raB0 39 = 2132542563 := next_val raB0 23 _ _ _ _ _ (by decide) rax0sch37 rax0sch32 rax0sch24 rax0sch23 (by kernel_rfl)
theorem rax0sch40 : SCH raB0 40 = 116773603 := next_val raB0 24 _ _ _ _ _ (by decide) rax0sch38 rax0sch33 rax0sch25 rax0sch24 (by kernel_rfl)
theorem rax0sch41 : SCH raB0 41 = 3188626119 := next_val raB0 25 _ _ _ _ _ (by decide) rax0sch39 rax0sch34 rax0sch26 rax0sch25 (by kernel_rfl)
theorem rax0sch42 : SCH raB0 42 = 1331093481 := next_val raB0 26 _ _ _ _ _ (by decide) rax0sch40 rax0sch35 rax0sch27 rax0sch26 (by kernel_rfl)
theorem rax0sch43 : SCH raB0 43 = 3819298401 := next_val raB0 27 _ _ _ _ _ (by decide) rax0sch41 rax0sch36 rax0sch28 rax0sch27 (by kernel_rfl)
theorem rax0sch44 : SCH raB0 44 = 2962250729 := next_val raB0 28 _ _ _ _ _ (by decide) rax0sch42 rax0sch37 rax0sch29 rax0sch28 (by kernel_rfl)
theorem rax0sch45 : SCH raB0 45 = 2298708850 := next_val raB0 29 _ _ _ _ _ (by decide) rax0sch43 rax0sch38 rax0sch30 rax0sch29 (by kernel_rfl)
theorem rax0sch46 : SCH raB0 46 = 1469527379 := next_val raB0 30 _ _ _ _ _ (by decide) rax0sch44 rax0sch39 rax0sch31 rax0sch30 (by kernel_rfl)
theorem rax0sch47 : SCH raB0 47 = 2671433754 := next_val raB0 31 _ _ _ _ _ (by decide) rax0sch45 rax0sch40 rax0sch32 rax0sch31 (by kernel_rfl)
theorem rax0sch48 : SCH raB0 48 = 2554888018 := next_val raB0 32 _ _ _ _ _ (by decide) rax0sch46 rax0sch41 rax0sch33 rax0sch32 (by kernel_rfl)
theorem rax0sch49 : SCH raB0 49 = 3996112721 := next_val raB0 33 _ _ _ _ _ (by decide) rax0sch47 rax0sch42 rax0sch34 rax0sch33 (by kernel_rfl)
theorem rax0sch50 : SCH raB0 50 = 1950550927 := next_val raB0 34 _ _ _ _ _ (by decide) rax0sch48 rax0sch43 rax0sch35 rax0sch34 (by kernel_rfl)
theorem rax0sch51 : SCH raB0 51 = 722445218 := next_val raB0 35 _ _ _ _ _ (by decide) rax0sch49 rax0sch44 rax0sch36 rax0sch35 (by kernel_rfl)
theorem rax0sch52 : SCH raB0 52 = 4037145175 := next_val raB0 36 _ _ _ _ _ (by decide) rax0sch50 rax0sch45 rax0sch37 rax0sch36 (by kernel_rfl)
theorem rax0sch53 : SCH raB0 53 = 1193106810 := next_val raB0 37 _ _ _ _ _ (by decide) rax0sch51 rax0sch46 rax0sch38 rax0sch37 (by kernel_rfl)
theorem rax0sch54 : SCH raB0 54 = 2532417537 := next_val raB0 38 _ _ _ _ _ (by decide) rax0sch52 rax0sch47 rax0sch39 rax0sch38 (by kernel_rfl)
theorem rax0sch55 : SCH raB0 55 = 3469983795 := next_val raB0 39 _ _ _ _ _ (by decide) rax0sch53 rax0sch48 rax0sch40 rax0sch39 (by kernel_rfl)
theorem rax0sch56 : SCH raB0 56 = 358027520 := next_val raB0 40 _ _ _ _ _ (by decide) rax0sch54 rax0sch49 rax0sch41 rax0sch40 (by kernel_rfl)
theorem rax0sch57 : SCH raB0 57 = 923528752 := next_val raB0 41 _ _ _ _ _ (by decide) rax0sch55 rax0sch50 rax0sch42 rax0sch41 (by kernel_rfl)
theorem rax0sch58 : SCH raB0 58 = 2369219049 := next_val raB0 42 _ _ _ _ _ (by decide) rax0sch56 rax0sch51 rax0sch43 rax0sch42 (by kernel_rfl)
theorem rax0sch59 : SCH raB0 59 = 849672261 := next_val raB0 43 _ _ _ _ _ (by decide) rax0sch57 rax0sch52 rax0sch44 rax0sch43 (by kernel_rfl)
theorem rax0sch60 : SCH raB0 60 = 1720142194 := next_val raB0 44 _ _ _ _ _ (by decide) rax0sch58 rax0sch53 rax0sch45 rax0sch44 (by kernel_rfl)
theorem rax0sch61 : SCH raB0 61 = 1680135888 := next_val raB0 45 _ _ _ _ _ (by decide) rax0sch59 rax0sch54 rax0sch46 rax0sch45 (by kernel_rfl)
theorem rax0sch62 : SCH raB0 62 = 81354052 := next_val raB0 46 _ _ _ _ _ (by decide) rax0sch60 rax0sch55 rax0sch47 rax0sch46 (by kernel_rfl)
theorem rax0sch63 : SCH raB0 63 = 1344952771 := next_val raB0 47 _ _ _ _ _ (by decide) rax0sch61 rax0sch56 rax0sch48 rax0sch47 (by kernel_rfl)
theorem rax0run0 : RUN (SCH raB0) (STOF (FIRST 32)) 0 = ⟨1779033703, 3144134277, 1013904242, 2773480762, 1359893119, 2600822924, 528734635, 1541459225⟩ := by kernel_rfl
theorem rax0run8 : RUN (SCH raB0) (STOF (FIRST 32)) 8 = ⟨1550313752, 2529506852, 3244852887, 2264155934, 2090017905, 1910810165, 3948672404, 4206160822⟩ := round8 _ _ _ _ 0 _ _ _ _ _ _ _ _ rax0run0 rax0sch0 rax0sch1 rax0sch2 rax0sch3 rax0sch4 rax0sch5 rax0sch6 rax0sch7 (by kernel_rfl)
theorem rax0run16 : RUN (SCH raB0) (STOF (FIRST 32)) 16 = ⟨818368193, 2987279692, 2485841959, 3659154834, 4137862902, 1714398919, 2599638847, 3940923549⟩ := round8 _ _ _ _ 8 _ _ _ _ _ _ _ _ rax0run8 rax0sch8 rax0sch9 rax0sch10 rax0sch11 rax0sch12 rax0sch13 rax0sch14 rax0sch15 (by kernel_rfl)
theorem rax0run24 : RUN (SCH raB0) (STOF (FIRST 32)) 24 = ⟨1315460516, 3548221494, 3684344750, 1411917832, 3934393198, 3606472721, 666348881, 993264076⟩ := round8 _ _ _ _ 16 _ _ _ _ _ _ _ _ rax0run16 rax0sch16 rax0sch17 rax0sch18 rax0sch19 rax0sch20 rax0sch21 rax0sch22 rax0sch23 (by kernel_rfl)
theorem rax0run32 : RUN (SCH raB0) (STOF (FIRST 32)) 32 = ⟨1797828967, 2104514219, 359108021, 358033666, 421462876, 2142263399, 1153061354, 1940879739⟩ := round8 _ _ _ _ 24 _ _ _ _ _ _ _ _ rax0run24 rax0sch24 rax0sch25 rax0sch26 rax0sch27 rax0sch28 rax0sch29 rax0sch30 rax0sch31 (by kernel_rfl)
theorem rax0run40 : RUN (SCH raB0) (STOF (FIRST 32)) 40 = ⟨4241382438, 1291338189, 1192391005, 3515580850, 2757572809, 4028294208, 2016349069, 1570887847⟩ := round8 _ _ _ _ 32 _ _ _ _ _ _ _ _ rax0run32 rax0sch32 rax0sch33 rax0sch34 rax0sch35 rax0sch36 rax0sch37 rax0sch38 rax0sch39 (by kernel_rfl)
theorem rax0run48 : RUN (SCH raB0) (STOF (FIRST 32)) 48 = ⟨2245694248, 2888626123, 3243036234, 2426370195, 2373959283, 758183933, 481132175, 1989861446⟩ := round8 _ _ _ _ 40 _ _ _ _ _ _ _ _ rax0run40 rax0sch40 rax0sch41 rax0sch42 rax0sch43 rax0sch44 rax0sch45 rax0sch46 rax0sch47 (by kernel_rfl)
theorem rax0run56 : RUN (SCH raB0) (STOF (FIRST 32)) 56 = ⟨4010340936, 1678079054, 2509526192, 3808643941, 263607997, 503790578, 3266785877, 359549044⟩ := round8 _ _ _ _ 48 _ _ _ _ _ _ _ _ rax0run48 rax0sch48 rax0sch49 rax0sch50 rax0sch51 rax0sch52 rax0sch53 rax0sch54 rax0sch55 (by kernel_rfl)
theorem rax0run64 : RUN (SCH raB0) (STOF (FIRST 32)) 64 = ⟨526850632, 400993312, 4021695183, 1356178615, 779252320, 2317673351, 332453934, 583671951⟩ := round8 _ _ _ _ 56 _ _ _ _ _ _ _ _ rax0run56 rax0sch56 rax0sch57 rax0sch58 rax0sch59 rax0sch60 rax0sch61 rax0sch62 rax0sch63 (by kernel_rfl)
theorem rax0out0 : OUTW (FIRST 32) raB0 0 = 2305884335 := by
  rw [OUTW, rax0run64]
  kernel_rfl
theorem rax0out1 : OUTW (FIRST 32) raB0 1 = 3545127589 := by
  rw [OUTW, rax0run64]
  kernel_rfl
theorem rax0out2 : OUTW (FIRST 32) raB0 2 = 740632129 := by
  rw [OUTW, rax0run64]
  kernel_rfl
theorem rax0out3 : OUTW (FIRST 32) raB0 3 = 4129659377 := by
  rw [OUTW, rax0run64]
  kernel_rfl
theorem rax0out4 : OUTW (FIRST 32) raB0 4 = 2139145439 := by
  rw [OUTW, rax0run64]
  kernel_rfl
theorem rax0out5 : OUTW (FIRST 32) raB0 5 = 623528979 := by
  rw [OUTW, rax0run64]
  kernel_rfl
theorem rax0out6 : OUTW (FIRST 32) raB0 6 = 861188569 := by
  rw [OUTW, rax0run64]
  kernel_rfl
theorem rax0out7 : OUTW (FIRST 32) raB0 7 = 2125131176 := by
  rw [OUTW, rax0run64]
  kernel_rfl
theorem rax0list : (List.range 32).map (COMP 32 (FIRST 32) raB0) = [137, 113, 0, 175, 211, 78, 90, 165, 44, 37, 38, 65, 246, 37, 153, 241, 127, 128, 196, 223, 37, 42, 76, 19, 51, 84, 177, 217, 126, 170, 237, 168] := by
  rw [comp_words, rax0out0, rax0out1, rax0out2, rax0out3, rax0out4, rax0out5, rax0out6, rax0out7]
  kernel_rfl
def raS1 (i : Nat) : Nat := ([137, 113, 0, 175, 211, 78, 90, 165, 44, 37, 38, 65, 246, 37, 153, 241, 127, 128, 196, 223, 37, 42, 76, 19, 51, 84, 177, 217, 126, 170, 237, 168] : List Nat).getD i 0
theorem rax0fun : COMP 32 (FIRST 32) raB0 = raS1 := comp_fun _ _ _ rax0list rfl
theorem ralen : ([3, 0, 0, 0, 0, 0, 0, 0, 3, 240, 81, 46, 173, 72, 158, 9, 134, 143, 155, 158, 221, 235, 247, 94, 147, 3, 93, 19, 58, 124, 166, 221, 22, 31, 201, 30, 132, 207, 210, 67, 87] ++ END 41).length / 64 = 1 := by rw [List.length_append, END_length]; kernel_rfl
theorem rahash : HASHOF 32 [3, 0, 0, 0, 0, 0, 0, 0, 3, 240, 81, 46, 173, 72, 158, 9, 134, 143, 155, 158, 221, 235, 247, 94, 147, 3, 93, 19, 58, 124, 166, 221, 22, 31, 201, 30, 132, 207, 210, 67, 87] = raS1 := by
  rw [hashof_len 32 [3, 0, 0, 0, 0, 0, 0, 0, 3, 240, 81, 46, 173, 72, 158, 9, 134, 143, 155, 158, 221, 235, 247, 94, 147, 3, 93, 19, 58, 124, 166, 221, 22, 31, 201, 30, 132, 207, 210, 67, 87] 41 rfl, ralen, state_one]
  show COMP 32 (FIRST 32) raB0 = raS1
  rw [rax0fun]
def rbB0 : Nat → Nat := BLK ([3, 0, 0, 0, 0, 0, 0, 0, 3, 164, 137, 134, 81, 1, 2, 52, 15, 240, 241, 170, 153, 18, 113, 89, 240, 26, 243, 232, 37, 96, 151, 10, 62, 241, 77, 73, 229, 189, 62, 141, 99] ++ END 41) 0
theorem rbx0sch0 : SCH rbB0 0 = 50331648 := (SCH_first rbB0 0 (by decide)).trans (by kernel_rfl)
theorem rbx0sch1 : SCH rbB0 1 = 0 := (SCH_first rbB0 1 (by decide)).trans (by kernel_rfl)
theorem rbx0sch2 : SCH rbB0 2 = 61114758 := (SCH_first rbB0 2 (by decide)).trans (by kernel_rfl)
theorem rbx0sch3 : SCH rbB0 3 = 1359020596 := (SCH_first rbB0 3 (by decide)).trans (by kernel_rfl)
theorem rbx0sch4 : SCH rbB0 4 = 267448746 := (SCH_first rbB0 4 (by decide)).trans (by kernel_rfl)
theorem rbx0sch5 : SCH rbB0 5 = 2568122713 := (SCH_first rbB0 5 (by decide)).trans (by kernel_rfl)
theorem rbx0sch6 : SCH rbB0 6 = 4028298216 := (SCH_first rbB0 6 (by decide)).trans (by kernel_rfl)
theorem rbx0sch7 : SCH rbB0 7 = 627087114 := (SCH_first rbB0 7 (by decide)).trans (by kernel_rfl)
theorem rbx0sch8 : SCH rbB0 8 = 1056001353 := (SCH_first rbB0 8 (by decide)).trans (by kernel_rfl)
theorem rbx0sch9 : SCH rbB0 9 = 3854384781 := (SCH_first rbB0 9 (by decide)).trans (by kernel_rfl)
theorem rbx0sch10 : SCH rbB0 10 = 1669332992 := (SCH_first rbB0 10 (by decide)).trans (by kernel_rfl)
theorem rbx0sch11 : SCH rbB0 11 = 0 := (SCH_first rbB0 11 (by decide)).trans (by kernel_rfl)
theorem rbx0sch12 : SCH rbB0 12 = 0 := (SCH_first rbB0 12 (by decide)).trans (by kernel_rfl)
theorem rbx0sch13 : SCH rbB0 13 = 0 := (SCH_first rbB0 13 (by decide)).trans (by kernel_rfl)
theorem rbx0sch14 : SCH rbB0 14 = 0 := (SCH_first rbB0 14 (by decide)).trans (by kernel_rfl)
theorem rbx0sch15 : SCH rbB0 15 = 328 := (SCH_first rbB0 15 (by decide)).trans (by kernel_rfl)
theorem rbx0sch16 : SCH rbB0 16 = 3904716429 := next_val rbB0 0 _ _ _ _ _ (by decide) rbx0sch14 rbx0sch9 rbx0sch1 rbx0sch0 (by kernel_rfl)
theorem rbx0sch17 : SCH rbB0 17 = 2451527882 := next_val rbB0 1 _ _ _ _ _ (by decide) rbx0sch15 rbx0sch10 rbx0sch2 rbx0sch1 (by kernel_rfl)
theorem rbx0sch18 : SCH rbB0 18 = 1583424910 := next_val rbB0 2 _ _ _ _ _ (by decide) rbx0sch16 rbx0sch11 rbx0sch3 rbx0sch2 (by kernel_rfl)
theorem rbx0sch19 : SCH rbB0 19 = 31791864 := next_val rbB0 3 _ _ _ _ _ (by decide) rbx0sch17 rbx0sch12 rbx0sch4 rbx0sch3 (by kernel_rfl)
theorem rbx0sch20 : SCH rbB0 20 = 43547372 := next_val rbB0 4 _ _ _ _ _ (by decide) rbx0sch18 rbx0sch13 rbx0sch5 rbx0sch4 (by kernel_rfl)
theorem rbx0sch21 : SCH rbB0 21 = 978272893 := next_val rbB0 5 _ _ _ _ _ (by decide) rbx0sch19 rbx0sch14 rbx0sch6 rbx0sch5 (by kernel_rfl)
theorem rbx0sch22 : SCH rbB0 22 = 1466595016 := next_val rbB0 6 _ _ _ _ _ (by decide) rbx0sch20 rbx0sch15 rbx0sch7 rbx0sch6 (by kernel_rfl)
theorem rbx0sch23 : SCH rbB0 23 = 512689124 := next_val rbB0 7 _ _ _ _ _ (by decide) rbx0sch21 rbx0sch16 rbx0sch8 rbx0sch7 (by kernel_rfl)
theorem rbx0sch24 : SCH rbB0 24 = 2409186971 := next_val rbB0 8 _ _ _ _ _ (by decide) rbx0sch22 rbx0sch17 rbx0sch9 rbx0sch8 (by kernel_rfl)
theorem rbx0sch25 : SCH rbB0 25 = 2992548945 := next_val rbB0 9 _ _ _ _ _ (by decide) rbx0sch23 rbx0sch18 rbx0sch10 rbx0sch9 (by kernel_rfl)
theorem rbx0sch26 : SCH rbB0 26 = 4045564774 := next_val rbB0 10 _ _ _ _ _ (by decide) rbx0sch24 rbx0sch19 rbx0sch11 rbx0sch10 (by kernel_rfl)
theorem rbx0sch27 : SCH rbB0 27 = 2250699707 := next_val rbB0 11 _ _ _ _ _ (by decide) rbx0sch25 rbx0sch20 rbx0sch12 rbx0sch11 (by kernel_rfl)
theorem rbx0sch28 : SCH rbB0 28 = 3006476460 := next_val rbB0 12 _ _ _ _ _ (by decide) rbx0sch26 rbx0sch21 rbx0sch13 rbx0sch12 (by kernel_rfl)
theorem rbx0sch29 : SCH rbB0 29 = 4277514547 := next_val rbB0 13 _ _ _ _ _ (by decide) rbx0sch27 rbx0sch22 rbx0sch14 rbx0sch13 (by kernel_rfl)
theorem rbx0sch30 : SCH rbB0 30 = 2907703106 := next_val rbB0 14 _ _ _ _ _ (by decide) rbx0sch28 rbx0sch23 rbx0sch15 rbx0sch14 (by kernel_rfl)
theorem rbx0sch31 : SCH rbB0 31 = 1199516974 := next_val rbB0 15 _ _ _ _ _ (by decide) rbx0sch29 rbx0sch24 rbx0sch16 rbx0sch15 (by kernel_rfl)
theorem rbx0sch32 : SCH rbB0 32 = 4023628560 := next_val rbB0 16 _ _ _ _ _ (by decide) rbx0sch30 rbx0sch25 rbx0sch17 rbx0sch16 (by kernel_rfl)
theorem rbx0sch33 : SCH rbB0 33 = 1417177645 := next_val rbB0 17 _ _ _ _ _ (by decide) rbx0sch31 rbx0sch26 rbx0sch18 rbx0sch17 (by kernel_rfl)
theorem rbx0sch34 : SCH rbB0 34 = 1255874907 := next_val rbB0 18 _ _ _ _ _ (by decide) rbx0sch32 rbx0sch27 rbx0sch19 rbx0sch18 (by kernel_rfl)
theorem rbx0sch35 : SCH rbB0 35 = 3024857435 := next_val rbB0 19 _ _ _ _ _ (by decide) rbx0sch33 rbx0sch28 rbx0sch20 rbx0sch19 (by kernel_rfl)
theorem rbx0sch36 : SCH rbB0 36 = 600104821 := next_val rbB0 20 _ _ _ _ _ (by decide) rbx0sch34 rbx0sch29 rbx0sch21 rbx0sch20 (by kernel_rfl)
theorem rbx0sch37 : SCH rbB0 37 = 2436667379 := next_val rbB0 21 _ _ _ _ _ (by decide) rbx0sch35 rbx0sch30 rbx0sch22 rbx0sch21 (by kernel_rfl)
theorem rbx0sch38 : SCH rbB0 38 = 2656854651 := next_val rbB0 22 _ _ _ _ _ (by decide) rbx0sch36 rbx0sch31 rbx0sch23 rbx0sch22 (by kernel_rfl)
theorem rbx0sch39 : SCH rbB0 39 = 1590797896 := next_val rbB0 23 _ _ _ _ _ (by decide) rbx0sch37 rbx0sch32 rbx0sch24 rbx0sch23 (by kernel_rfl)
theorem rbx0sch40 : SCH rbB0 40 = 3215057162 := next_val rbB0 24 _ _ _ _ _ (by decide) rbx0sch38 rbx0sch33 rbx0sch25 rbx0sch24 (by kernel_rfl)
theorem rbx0sch41 : SCH rbB0 41 = 777262201 := next_val rbB0 25 _ _ _ _ _ (by decide) rbx0sch39 rbx0sch34 rbx0sch26 rbx0sch25 (by kernel_rfl)
theorem rbx0sch42 : SCH rbB0 42 = 1293969206 := next_val rbB0 26 _ _ _ _ _ (by decide) rbx0sch40 rbx0sch35 rbx0sch27 rbx0sch26 (by kernel_rfl)
theorem rbx0sch43 : SCH rbB0 43 = 3050252237 := next_val rbB0 27 _ _ _ _ _ (by decide) rbx0sch41 rbx0sch36 rbx0sch28 rbx0sch27 (by kernel_rfl)
theorem rbx0sch44 : SCH rbB0 44 = 2555253445 := next_val rbB0 28 _ _ _ _ _ (by decide) rbx0sch42 rbx0sch37 rbx0sch29 rbx0sch28 (by kernel_rfl)
theorem rbx0sch45 : SCH rbB0 45 = 2779004663 := next_val rbB0 29 _ _ _ _ _ (by decide) rbx0sch43 rbx0sch38 rbx0sch30 rbx0sch29 (by kernel_rfl)
theorem rbx0sch46 : SCH rbB0 46 = 1986569300 := next_val rbB0 30 _ _ _ _ _ (by decide) rbx0sch44 rbx0sch39 rbx0sch31 rbx0sch30 (by kernel_rfl)
theorem rbx0sch47 : SCH rbB0 47 = 1888438417 := next_val rbB0 31 _ _ _ _ _ (by decide) rbx0sch45 rbx0sch40 rbx0sch32 rbx0sch31 (by kernel_rfl)
theorem rbx0sch48 : SCH rbB0 48 = 2945556456 := next_val rbB0 32 _ _ _ _ _ (by decide) rbx0sch46 rbx0sch41 rbx0sch33 rbx0sch32 (by kernel_rfl)
theorem rbx0sch49 : SCH rbB0 49 = 1719109574 := next_val rbB0 33 _ _ _ _ _ (by decide) rbx0sch47 rbx0sch42 rbx0sch34 rbx0sch33 (by kernel_rfl)
theorem rbx0sch50 : SCH rbB0 50 = 1216610032 := next_val rbB0 34 _ _ _ _ _ (by decide) rbx0sch48 rbx0sch43 rbx0sch35 rbx0sch34 (by kernel_rfl)
theorem rbx0sch51 : SCH rbB0 51 = 1501460693 := next_val rbB0 35 _ _ _ _ _ (by decide) rbx0sch49 rbx0sch44 rbx0sch36 rbx0sch35 (by kernel_rfl)
theorem rbx0sch52 : SCH rbB0 52 = 454441912 := next_val rbB0 36 _ _ _ _ _ (by decide) rbx0sch50 rbx0sch45 rbx0sch37 rbx0sch36 (by kernel_rfl)
theorem rbx0sch53 : SCH rbB0 53 = 4151666545 := next_val rbB0 37 _ _ _ _ _ (by decide) rbx0sch51 rbx0sch46 rbx0sch38 rbx0sch37 (by kernel_rfl)
theorem rbx0sch54 : SCH rbB0 54 = 3700356772 := next_val rbB0 38 _ _ _ _ _ (by decide) rbx0sch52 rbx0sch47 rbx0sch39 rbx0sch38 (by kernel_rfl)
theorem rbx0sch55 : SCH rbB0 55 = 2828545608 := next_val rbB0 39 _ _ _ _ _ (by decide) rbx0sch53 rbx0sch48 rbx0sch40 rbx0sch39 (by kernel_rfl)
theorem rbx0sch56 : SCH rbB0 56 = 3193151597 := next_val rbB0 40 _ _ _ _ _ (by decide) rbx0sch54 rbx0sch49 rbx0sch41 rbx0sch40 (by kernel_rfl)
theorem rbx0sch57 : SCH rbB0 57 = 110320157 := next_val rbB0 41 _ _ _ _ _ (by decide) rbx0sch55 rbx0sch50 rbx0sch42 rbx0sch41 (by kernel_rfl)
theorem rbx0sch58 : SCH rbB0 58 = 2396320731 := next_val rbB0 42 _ _ _ _ _ (by decide) rbx0sch56 rbx0sch51 rbx0sch43 rbx0sch42 (by kernel_rfl)
theorem rbx0sch59 : SCH rbB0 59 = 3015320384 := next_val rbB0 43 _ _ _ _ _ (by decide) rbx0sch57 rbx0sch52 rbx0sch44 rbx0sch43 (by kernel_rfl)
theorem rbx0sch60 : SCH rbB0 60 = 1807393932 := next_val rbB0 44 _ _ _ _ _ (by decide) rbx0sch58 rbx0sch53 rbx0sch45 rbx0sch44 (by kernel_rfl)
theorem rbx0sch61 : SCH rbB0 61 = 1733078805 := next_val rbB0 45 _ _ _ _ _ (by decide) rbx0sch59 rbx0sch54 rbx0sch46 rbx0sch45 (by kernel_rfl)
theorem rbx0sch62 : SCH rbB0 62 = 614650943 := next_val rbB0 46 _ _ _ _ _ (by decide) rbx0sch60 rbx0sch55 rbx0sch47 rbx0sch46 (by kernel_rfl)
theorem rbx0sch63 : SCH rbB0 63 = 2494296200 := next_val rbB0 47 _ _ _ _ _ (by decide) rbx0sch61 rbx0sch56 rbx0sch48 rbx0sch47 (by kernel_rfl)
theorem rbx0run0 : RUN (SCH rbB0) (STOF (FIRST 32)) 0 = ⟨1779033703, 3144134277, 1013904242, 2773480762, 1359893119, 2600822924, 528734635, 1541459225⟩ := by kernel_rfl
theorem rbx0run8 : RUN (SCH rbB0) (STOF (FIRST 32)) 8 = ⟨3844196960, 3048809565, 2014093076, 844383560, 3933307438, 969852023, 437383430, 272253603⟩ := round8 _ _ _ _ 0 _ _ _ _ _ _ _ _ rbx0run0 rbx0sch0 rbx0sch1 rbx0sch2 rbx0sch3 rbx0sch4 rbx0sch5 rbx0sch6 rbx0sch7 (by kernel_rfl)
theorem rbx0run16 : RUN (SCH rbB0) (STOF (FIRST 32)) 16 = ⟨2723753679, 1964894972, 2057207956, 1545546403, 2529209240, 3613957068, 1196147727, 3457032735⟩ := round8 _ _ _ _ 8 _ _ _ _ _ _ _ _ rbx0run8 rbx0sch8 rbx0sch9 rbx0sch10 rbx0sch11 rbx0sch12 rbx0sch13 rbx0sch14 rbx0sch15 (by kernel_rfl)
theorem rbx0run24 : RUN (SCH rbB0) (STOF (FIRST 32)) 24 = ⟨774156206, 1765932012, 3963866219, 2550510836, 829811944, 3033474263, 3445513532, 2869662303⟩ := round8 _ _ _ _ 16 _ _ _ _ _ _ _ _ rbx0run16 rbx0sch16 rbx0sch17 rbx0sch18 rbx0sch19 rbx0sch20 rbx0sch21 rbx0sch22 rbx0sch23 (by kernel_rfl)
theorem rbx0run32 : RUN (SCH rbB0) (STOF (FIRST 32)) 32 = ⟨1760346187, 2595943623, 2591587335, 1987926712, 1676947363, 2320654451, 333516968, 3578328022⟩ := round8 _ _ _ _ 24 _ _ _ _ _ _ _ _ rbx0run24 rbx0sch24 rbx0sch25 rbx0sch26 rbx0sch27 rbx0sch28 rbx0sch29 rbx0sch30 rbx0sch31 (by kernel_rfl)
theorem rbx0run40 : RUN (SCH rbB0) (STOF (FIRST 32)) 40 = ⟨4126420560, 1164755823, 3964194693, 4146906260, 811745836, 976161348, 4044622800, 55087744⟩ := round8 _ _ _ _ 32 _ _ _ _ _ _ _ _ rbx0run32 rbx0sch32 rbx0sch33 rbx0sch34 rbx0sch35 rbx0sch36 rbx0sch37 rbx0sch38 rbx0sch39 (by kernel_rfl)
theorem rbx0run48 : RUN (SCH rbB0) (STOF (FIRST 32)) 48 = ⟨3575513477, 2934044467, 3079394017, 496976993, 3053161684, 767650053, 2878905472, 4048000365⟩ := round8 _ _ _ _ 40 _ _ _ _ _ _ _ _ rbx0run40 rbx0sch40 rbx0sch41 rbx0sch42 rbx0sch43 rbx0sch44 rbx0sch45 rbx0sch46 rbx0sch47 (by kernel_rfl)
theorem rbx0run56 : RUN (SCH rbB0) (STOF (FIRST 32)) 56 = ⟨2579933931, 3631600314, 3905954110, 3553618332, 563046344, 165208645, 1339680461, 422817985⟩ := round8 _ _ _ _ 48 _ _ _ _ _ _ _ _ rbx0run48 rbx0sch48 rbx0sch49 rbx0sch50 rbx0sch51 rbx0sch52 rbx0sch53 rbx0sch54 rbx0sch55 (by kernel_rfl)
theorem rbx0run64 : RUN (SCH rbB0) (STOF (FIRST 32)) 64 = ⟨968694540, 2743388452, 1427134734, 1089848059, 1800632956, 33728299, 1439881574, 2198303562⟩ := round8 _ _ _ _ 56 _ _ _ _ _ _ _ _ rbx0run56 rbx0sch56 rbx0sch57 rbx0sch58 rbx0sch59 rbx0sch60 rbx0sch61 rbx0sch62 rbx0sch63 (by kernel_rfl)
theorem rbx0out0 : OUTW (FIRST 32) rbB0 0 = 2747728243 := by
  rw [OUTW, rbx0run64]
  kernel_rfl
theorem rbx0out1 : OUTW (FIRST 32) rbB0 1 = 1592555433 := by
  rw [OUTW, rbx0run64]
  kernel_rfl
theorem rbx0out2 : OUTW (FIRST 32) rbB0 2 = 2441038976 := by
  rw [OUTW, rbx0run64]
  kernel_rfl
theorem rbx0out3 : OUTW (FIRST 32) rbB0 3 = 3863328821 := by
  rw [OUTW, rbx0run64]
  kernel_rfl
theorem rbx0out4 : OUTW (FIRST 32) rbB0 4 = 3160526075 := by
  rw [OUTW, rbx0run64]
  kernel_rfl
theorem rbx0out5 : OUTW (FIRST 32) rbB0 5 = 2634551223 := by
  rw [OUTW, rbx0run64]
  kernel_rfl
theorem rbx0out6 : OUTW (FIRST 32) rbB0 6 = 1968616209 := by
  rw [OUTW, rbx0run64]
  kernel_rfl
theorem rbx0out7 : OUTW (FIRST 32) rbB0 7 = 3739762787 := by
  rw [OUTW, rbx0run64]
  kernel_rfl
theorem rbx0list : (List.range 32).map (COMP 32 (FIRST 32) rbB0) = [163, 199, 1, 115, 94, 236, 119, 169, 145, 127, 76, 128, 230, 69, 184, 53, 188, 97, 204, 251, 157, 8, 15, 183, 117, 86, 179, 17, 222, 232, 64, 99] := by
  rw [comp_words, rbx0out0, rbx0out1, rbx0out2, rbx0out3, rbx0out4, rbx0out5, rbx0out6, rbx0out7]
  kernel_rfl
def rbS1 (i : Nat) : Nat := ([163, 199, 1, 115, 94, 236, 119, 169, 145, 127, 76, 128, 230, 69, 184, 53, 188, 97, 204, 251, 157, 8, 15, 183, 117, 86, 179, 17, 222, 232, 64, 99] : List Nat).getD i 0
theorem rbx0fun : COMP 32 (FIRST 32) rbB0 = rbS1 := comp_fun _ _ _ rbx0list rfl
theorem rblen : ([3, 0, 0, 0, 0, 0, 0, 0, 3, 164, 137, 134, 81, 1, 2, 52, 15, 240, 241, 170, 153, 18, 113, 89, 240, 26, 243, 232, 37, 96, 151, 10, 62, 241, 77, 73, 229, 189, 62, 141, 99] ++ END 41).length / 64 = 1 := by rw [List.length_append, END_length]; kernel_rfl
theorem rbhash : HASHOF 32 [3, 0, 0, 0, 0, 0, 0, 0, 3, 164, 137, 134, 81, 1, 2, 52, 15, 240, 241, 170, 153, 18, 113, 89, 240, 26, 243, 232, 37, 96, 151, 10, 62, 241, 77, 73, 229, 189, 62, 141, 99] = rbS1 := by
  rw [hashof_len 32 [3, 0, 0, 0, 0, 0, 0, 0, 3, 164, 137, 134, 81, 1, 2, 52, 15, 240, 241, 170, 153, 18, 113, 89, 240, 26, 243, 232, 37, 96, 151, 10, 62, 241, 77, 73, 229, 189, 62, 141, 99] 41 rfl, rblen, state_one]
  show COMP 32 (FIRST 32) rbB0 = rbS1
  rw [rbx0fun]
theorem roots_apart : raS1 0 ≠ rbS1 0 := by decide
end Go.Proofs.YtfgbojbhheokjaaGreatDoor.HX
