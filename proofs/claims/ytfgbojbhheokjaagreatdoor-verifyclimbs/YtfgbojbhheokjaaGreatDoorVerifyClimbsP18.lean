/- Texts of VerifyClimbs, one behind the other: HashAbc, HashAwake, HashRow, HashText. -/
import Derived.Test.YtfgbojbhheokjaaGreatDoorVerifyClimbsP17
/- The hash of three bytes, by its first and last byte, worked out by the kernel. -/
namespace Go.Proofs.YtfgbojbhheokjaaGreatDoor.HX
open Go.RowKit

/-- the one block of the text abc. -/
def AB : Nat → Nat := BLK ([97, 98, 99] ++ END 3) 0
theorem next_val (b : Nat → Nat) (k v14 v9 v1 v0 V : Nat) (hk : k < 48) (h14 : SCH b (14 + k) = v14) (h9 : SCH b (9 + k) = v9) (h1 : SCH b (1 + k) = v1) (h0 : SCH b k = v0)
    (hV : (SPILL 17 19 10 v14 + v9 + SPILL 7 18 3 v1 + v0) % 4294967296 = V) : SCH b (16 + k) = V := by rw [SCH_next b k hk, h14, h9, h1, h0, hV]
theorem round_val (x : Nat → Nat) (s S S' : ST) (t v : Nat) (h : RUN x s t = S) (hv : x t = v) (hS : RND (KC t) v S = S') : RUN x s (t + 1) = S' := by rw [RUN, h, hv, hS]

theorem sch0 : SCH AB 0 = 1633837952 := (SCH_first AB 0 (by decide)).trans (by kernel_rfl)
theorem sch1 : SCH AB 1 = 0 := (SCH_first AB 1 (by decide)).trans (by kernel_rfl)
theorem sch2 : SCH AB 2 = 0 := (SCH_first AB 2 (by decide)).trans (by kernel_rfl)
theorem sch3 : SCH AB 3 = 0 := (SCH_first AB 3 (by decide)).trans (by kernel_rfl)
theorem sch4 : SCH AB 4 = 0 := (SCH_first AB 4 (by decide)).trans (by kernel_rfl)
theorem sch5 : SCH AB 5 = 0 := (SCH_first AB 5 (by decide)).trans (by kernel_rfl)
theorem sch6 : SCH AB 6 = 0 := (SCH_first AB 6 (by decide)).trans (by kernel_rfl)
theorem sch7 : SCH AB 7 = 0 := (SCH_first AB 7 (by decide)).trans (by kernel_rfl)
theorem sch8 : SCH AB 8 = 0 := (SCH_first AB 8 (by decide)).trans (by kernel_rfl)
theorem sch9 : SCH AB 9 = 0 := (SCH_first AB 9 (by decide)).trans (by kernel_rfl)
theorem sch10 : SCH AB 10 = 0 := (SCH_first AB 10 (by decide)).trans (by kernel_rfl)
theorem sch11 : SCH AB 11 = 0 := (SCH_first AB 11 (by decide)).trans (by kernel_rfl)
theorem sch12 : SCH AB 12 = 0 := (SCH_first AB 12 (by decide)).trans (by kernel_rfl)
theorem sch13 : SCH AB 13 = 0 := (SCH_first AB 13 (by decide)).trans (by kernel_rfl)
theorem sch14 : SCH AB 14 = 0 := (SCH_first AB 14 (by decide)).trans (by kernel_rfl)
theorem sch15 : SCH AB 15 = 24 := (SCH_first AB 15 (by decide)).trans (by kernel_rfl)
theorem sch16 : SCH AB 16 = 1633837952 := next_val AB 0 _ _ _ _ _ (by decide) sch14 sch9 sch1 sch0 (by kernel_rfl)
theorem sch17 : SCH AB 17 = 983040 := next_val AB 1 _ _ _ _ _ (by decide) sch15 sch10 sch2 sch1 (by kernel_rfl)
theorem sch18 : SCH AB 18 = 2108187653 := next_val AB 2 _ _ _ _ _ (by decide) sch16 sch11 sch3 sch2 (by kernel_rfl)
theorem sch19 : SCH AB 19 = 1610613702 := next_val AB 3 _ _ _ _ _ (by decide) sch17 sch12 sch4 sch3 (by kernel_rfl)
theorem sch20 : SCH AB 20 = 1050508152 := next_val AB 4 _ _ _ _ _ (by decide) sch18 sch13 sch5 sch4 (by kernel_rfl)
theorem sch21 : SCH AB 21 = 25426944 := next_val AB 5 _ _ _ _ _ (by decide) sch19 sch14 sch6 sch5 (by kernel_rfl)
theorem sch22 : SCH AB 22 = 316456923 := next_val AB 6 _ _ _ _ _ (by decide) sch20 sch15 sch7 sch6 (by kernel_rfl)
theorem sch23 : SCH AB 23 = 3806512014 := next_val AB 7 _ _ _ _ _ (by decide) sch21 sch16 sch8 sch7 (by kernel_rfl)
theorem sch24 : SCH AB 24 = 3357629466 := next_val AB 8 _ _ _ _ _ (by decide) sch22 sch17 sch9 sch8 (by kernel_rfl)
theorem sch25 : SCH AB 25 = 3073800610 := next_val AB 9 _ _ _ _ _ (by decide) sch23 sch18 sch10 sch9 (by kernel_rfl)
theorem sch26 : SCH AB 26 = 3854317833 := next_val AB 10 _ _ _ _ _ (by decide) sch24 sch19 sch11 sch10 (by kernel_rfl)
theorem sch27 : SCH AB 27 = 845560923 := next_val AB 11 _ _ _ _ _ (by decide) sch25 sch20 sch12 sch11 (by kernel_rfl)
theorem sch28 : SCH AB 28 = 2636160359 := next_val AB 12 _ _ _ _ _ (by decide) sch26 sch21 sch13 sch12 (by kernel_rfl)
theorem sch29 : SCH AB 29 = 3968280267 := next_val AB 13 _ _ _ _ _ (by decide) sch27 sch22 sch14 sch13 (by kernel_rfl)
theorem sch30 : SCH AB 30 = 1881225380 := next_val AB 14 _ _ _ _ _ (by decide) sch28 sch23 sch15 sch14 (by kernel_rfl)
theorem sch31 : SCH AB 31 = 3552024379 := next_val AB 15 _ _ _ _ _ (by decide) sch29 sch24 sch16 sch15 (by kernel_rfl)
theorem sch32 : SCH AB 32 = 2482346367 := next_val AB 16 _ _ _ _ _ (by decide) sch30 sch25 sch17 sch16 (by kernel_rfl)
theorem sch33 : SCH AB 33 = 996719219 := next_val AB 17 _ _ _ _ _ (by decide) sch31 sch26 sch18 sch17 (by kernel_rfl)
theorem sch34 : SCH AB 34 = 2952069057 := next_val AB 18 _ _ _ _ _ (by decide) sch32 sch27 sch19 sch18 (by kernel_rfl)
theorem sch35 : SCH AB 35 = 4043988066 := next_val AB 19 _ _ _ _ _ (by decide) sch33 sch28 sch20 sch19 (by kernel_rfl)
theorem sch36 : SCH AB 36 = 176896406 := next_val AB 20 _ _ _ _ _ (by decide) sch34 sch29 sch21 sch20 (by kernel_rfl)
theorem sch37 : SCH AB 37 = 1924104970 := next_val AB 21 _ _ _ _ _ (by decide) sch35 sch30 sch22 sch21 (by kernel_rfl)
theorem sch38 : SCH AB 38 = 2483675966 := next_val AB 22 _ _ _ _ _ (by decide) sch36 sch31 sch23 sch22 (by kernel_rfl)
theorem sch39 : SCH AB 39 = 610538786 := next_val AB 23 _ _ _ _ _ (by decide) sch37 sch32 sch24 sch23 (by kernel_rfl)
theorem sch40 : SCH AB 40 = 2672279444 := next_val AB 24 _ _ _ _ _ (by decide) sch38 sch33 sch25 sch24 (by kernel_rfl)
theorem sch41 : SCH AB 41 = 4037431130 := next_val AB 25 _ _ _ _ _ (by decide) sch39 sch34 sch26 sch25 (by kernel_rfl)
theorem sch42 : SCH AB 42 = 1042573945 := next_val AB 26 _ _ _ _ _ (by decide) sch40 sch35 sch27 sch26 (by kernel_rfl)
theorem sch43 : SCH AB 43 = 657669027 := next_val AB 27 _ _ _ _ _ (by decide) sch41 sch36 sch28 sch27 (by kernel_rfl)
theorem sch44 : SCH AB 44 = 206005234 := next_val AB 28 _ _ _ _ _ (by decide) sch42 sch37 sch29 sch28 (by kernel_rfl)
theorem sch45 : SCH AB 45 = 2215296807 := next_val AB 29 _ _ _ _ _ (by decide) sch43 sch38 sch30 sch29 (by kernel_rfl)
theorem sch46 : SCH AB 46 = 2049510749 := next_val AB 30 _ _ _ _ _ (by decide) sch44 sch39 sch31 sch30 (by kernel_rfl)
theorem sch47 : SCH AB 47 = 106709978 := next_val AB 31 _ _ _ _ _ (by decide) sch45 sch40 sch32 sch31 (by kernel_rfl)
theorem sch48 : SCH AB 48 = 4215179723 := next_val AB 32 _ _ _ _ _ (by decide) sch46 sch41 sch33 sch32 (by kernel_rfl)
theorem sch49 : SCH AB 49 = 3430291419 := next_val AB 33 _ _ _ _ _ (by decide) sch47 sch42 sch34 sch33 (by kernel_rfl)
theorem sch50 : SCH AB 50 = 3118885940 := next_val AB 34 _ _ _ _ _ (by decide) sch48 sch43 sch35 sch34 (by kernel_rfl)
theorem sch51 : SCH AB 51 = 2845390439 := next_val AB 35 _ _ _ _ _ (by decide) sch49 sch44 sch36 sch35 (by kernel_rfl)
theorem sch52 : SCH AB 52 = 2226839261 := next_val AB 36 _ _ _ _ _ (by decide) sch50 sch45 sch37 sch36 (by kernel_rfl)
theorem sch53 : SCH AB 53 = 3256115900 := next_val AB 37 _ _ _ _ _ (by decide) sch51 sch46 sch38 sch37 (by kernel_rfl)
theorem sch54 : SCH AB 54 = 344409900 := next_val AB 38 _ _ _ _ _ (by decide) sch52 sch47 sch39 sch38 (by kernel_rfl)
theorem sch55 : SCH AB 55 = 2987358873 := next_val AB 39 _ _ _ _ _ (by decide) sch53 sch48 sch40 sch39 (by kernel_rfl)
theorem sch56 : SCH AB 56 = 4015503821 := next_val AB 40 _ _ _ _ _ (by decide) sch54 sch49 sch41 sch40 (by kernel_rfl)
theorem sch57 : SCH AB 57 = 3957764664 := next_val AB 41 _ _ _ _ _ (by decide) sch55 sch50 sch42 sch41 (by kernel_rfl)
theorem sch58 : SCH AB 58 = 2682456414 := next_val AB 42 _ _ _ _ _ (by decide) sch56 sch51 sch43 sch42 (by kernel_rfl)
theorem sch59 : SCH AB 59 = 2025622859 := next_val AB 43 _ _ _ _ _ (by decide) sch57 sch52 sch44 sch43 (by kernel_rfl)
theorem sch60 : SCH AB 60 = 2755645205 := next_val AB 44 _ _ _ _ _ (by decide) sch58 sch53 sch45 sch44 (by kernel_rfl)
theorem sch61 : SCH AB 61 = 1720397816 := next_val AB 45 _ _ _ _ _ (by decide) sch59 sch54 sch46 sch45 (by kernel_rfl)
theorem sch62 : SCH AB 62 = 4004225740 := next_val AB 46 _ _ _ _ _ (by decide) sch60 sch55 sch47 sch46 (by kernel_rfl)
theorem sch63 : SCH AB 63 = 313650667 := next_val AB 47 _ _ _ _ _ (by decide) sch61 sch56 sch48 sch47 (by kernel_rfl)
theorem run0 : RUN (SCH AB) (STOF (FIRST 32)) 0 = ⟨1779033703, 3144134277, 1013904242, 2773480762, 1359893119, 2600822924, 528734635, 1541459225⟩ := by kernel_rfl
theorem run1 : RUN (SCH AB) (STOF (FIRST 32)) 1 = ⟨1567288269, 1779033703, 3144134277, 1013904242, 4197074466, 1359893119, 2600822924, 528734635⟩ := round_val _ _ _ _ 0 _ run0 sch0 (by kernel_rfl)
theorem run2 : RUN (SCH AB) (STOF (FIRST 32)) 2 = ⟨1516951981, 1567288269, 1779033703, 3144134277, 2026797449, 4197074466, 1359893119, 2600822924⟩ := round_val _ _ _ _ 1 _ run1 sch1 (by kernel_rfl)
theorem run3 : RUN (SCH AB) (STOF (FIRST 32)) 3 = ⟨3368241063, 1516951981, 1567288269, 1779033703, 4180228587, 2026797449, 4197074466, 1359893119⟩ := round_val _ _ _ _ 2 _ run2 sch2 (by kernel_rfl)
theorem run4 : RUN (SCH AB) (STOF (FIRST 32)) 4 = ⟨3578852966, 3368241063, 1516951981, 1567288269, 618661968, 4180228587, 2026797449, 4197074466⟩ := round_val _ _ _ _ 3 _ run3 sch3 (by kernel_rfl)
theorem run5 : RUN (SCH AB) (STOF (FIRST 32)) 5 = ⟨71342698, 3578852966, 3368241063, 1516951981, 1135452741, 618661968, 4180228587, 2026797449⟩ := round_val _ _ _ _ 4 _ run4 sch4 (by kernel_rfl)
theorem run6 : RUN (SCH AB) (STOF (FIRST 32)) 6 = ⟨725748213, 71342698, 3578852966, 3368241063, 1900175533, 1135452741, 618661968, 4180228587⟩ := round_val _ _ _ _ 5 _ run5 sch5 (by kernel_rfl)
theorem run7 : RUN (SCH AB) (STOF (FIRST 32)) 7 = ⟨3842179968, 725748213, 71342698, 3578852966, 2603066369, 1900175533, 1135452741, 618661968⟩ := round_val _ _ _ _ 6 _ run6 sch6 (by kernel_rfl)
theorem run8 : RUN (SCH AB) (STOF (FIRST 32)) 8 = ⟨2241887071, 3842179968, 725748213, 71342698, 207977081, 2603066369, 1900175533, 1135452741⟩ := round_val _ _ _ _ 7 _ run7 sch7 (by kernel_rfl)
theorem run9 : RUN (SCH AB) (STOF (FIRST 32)) 9 = ⟨2382687417, 2241887071, 3842179968, 725748213, 852110732, 207977081, 2603066369, 1900175533⟩ := round_val _ _ _ _ 8 _ run8 sch8 (by kernel_rfl)
theorem run10 : RUN (SCH AB) (STOF (FIRST 32)) 10 = ⟨2357671019, 2382687417, 2241887071, 3842179968, 482944406, 852110732, 207977081, 2603066369⟩ := round_val _ _ _ _ 9 _ run9 sch9 (by kernel_rfl)
theorem run11 : RUN (SCH AB) (STOF (FIRST 32)) 11 = ⟨1201185780, 2357671019, 2382687417, 2241887071, 1131095016, 482944406, 852110732, 207977081⟩ := round_val _ _ _ _ 10 _ run10 sch10 (by kernel_rfl)
theorem run12 : RUN (SCH AB) (STOF (FIRST 32)) 12 = ⟨4146054569, 1201185780, 2357671019, 2382687417, 2171590377, 1131095016, 482944406, 852110732⟩ := round_val _ _ _ _ 11 _ run11 sch11 (by kernel_rfl)
theorem run13 : RUN (SCH AB) (STOF (FIRST 32)) 13 = ⟨2274437520, 4146054569, 1201185780, 2357671019, 509051416, 2171590377, 1131095016, 482944406⟩ := round_val _ _ _ _ 12 _ run12 sch12 (by kernel_rfl)
theorem run14 : RUN (SCH AB) (STOF (FIRST 32)) 14 = ⟨3643992854, 2274437520, 4146054569, 1201185780, 1952073950, 509051416, 2171590377, 1131095016⟩ := round_val _ _ _ _ 13 _ run13 sch13 (by kernel_rfl)
theorem run15 : RUN (SCH AB) (STOF (FIRST 32)) 15 = ⟨3227803614, 3643992854, 2274437520, 4146054569, 194179596, 1952073950, 509051416, 2171590377⟩ := round_val _ _ _ _ 14 _ run14 sch14 (by kernel_rfl)
theorem run16 : RUN (SCH AB) (STOF (FIRST 32)) 16 = ⟨2969183118, 3227803614, 3643992854, 2274437520, 123276749, 194179596, 1952073950, 509051416⟩ := round_val _ _ _ _ 15 _ run15 sch15 (by kernel_rfl)
theorem run17 : RUN (SCH AB) (STOF (FIRST 32)) 17 = ⟨567974555, 2969183118, 3227803614, 3643992854, 2150900380, 123276749, 194179596, 1952073950⟩ := round_val _ _ _ _ 16 _ run16 sch16 (by kernel_rfl)
theorem run18 : RUN (SCH AB) (STOF (FIRST 32)) 18 = ⟨3271285201, 567974555, 2969183118, 3227803614, 2221859924, 2150900380, 123276749, 194179596⟩ := round_val _ _ _ _ 17 _ run17 sch17 (by kernel_rfl)
theorem run19 : RUN (SCH AB) (STOF (FIRST 32)) 19 = ⟨4269243327, 3271285201, 567974555, 2969183118, 3431569761, 2221859924, 2150900380, 123276749⟩ := round_val _ _ _ _ 18 _ run18 sch18 (by kernel_rfl)
theorem run20 : RUN (SCH AB) (STOF (FIRST 32)) 20 = ⟨3790736435, 4269243327, 3271285201, 567974555, 2959311225, 3431569761, 2221859924, 2150900380⟩ := round_val _ _ _ _ 19 _ run19 sch19 (by kernel_rfl)
theorem run21 : RUN (SCH AB) (STOF (FIRST 32)) 21 = ⟨2647034723, 3790736435, 4269243327, 3271285201, 2329577776, 2959311225, 3431569761, 2221859924⟩ := round_val _ _ _ _ 20 _ run20 sch20 (by kernel_rfl)
theorem run22 : RUN (SCH AB) (STOF (FIRST 32)) 22 = ⟨3261099373, 2647034723, 3790736435, 4269243327, 3777329520, 2329577776, 2959311225, 3431569761⟩ := round_val _ _ _ _ 21 _ run21 sch21 (by kernel_rfl)
theorem run23 : RUN (SCH AB) (STOF (FIRST 32)) 23 = ⟨2812502591, 3261099373, 2647034723, 3790736435, 1240797514, 3777329520, 2329577776, 2959311225⟩ := round_val _ _ _ _ 22 _ run22 sch22 (by kernel_rfl)
theorem run24 : RUN (SCH AB) (STOF (FIRST 32)) 24 = ⟨3319086477, 2812502591, 3261099373, 2647034723, 2856829767, 1240797514, 3777329520, 2329577776⟩ := round_val _ _ _ _ 23 _ run23 sch23 (by kernel_rfl)
theorem run25 : RUN (SCH AB) (STOF (FIRST 32)) 25 = ⟨472655928, 3319086477, 2812502591, 3261099373, 673443729, 2856829767, 1240797514, 3777329520⟩ := round_val _ _ _ _ 24 _ run24 sch24 (by kernel_rfl)
theorem run26 : RUN (SCH AB) (STOF (FIRST 32)) 26 = ⟨3454534525, 472655928, 3319086477, 2812502591, 339230094, 673443729, 2856829767, 1240797514⟩ := round_val _ _ _ _ 25 _ run25 sch25 (by kernel_rfl)
theorem run27 : RUN (SCH AB) (STOF (FIRST 32)) 27 = ⟨3056518332, 3454534525, 472655928, 3319086477, 3343672598, 339230094, 673443729, 2856829767⟩ := round_val _ _ _ _ 26 _ run26 sch26 (by kernel_rfl)
theorem run28 : RUN (SCH AB) (STOF (FIRST 32)) 28 = ⟨2010346792, 3056518332, 3454534525, 472655928, 3992961016, 3343672598, 339230094, 673443729⟩ := round_val _ _ _ _ 27 _ run27 sch27 (by kernel_rfl)
theorem run29 : RUN (SCH AB) (STOF (FIRST 32)) 29 = ⟨909411017, 2010346792, 3056518332, 3454534525, 1628611511, 3992961016, 3343672598, 339230094⟩ := round_val _ _ _ _ 28 _ run28 sch28 (by kernel_rfl)
theorem run30 : RUN (SCH AB) (STOF (FIRST 32)) 30 = ⟨2684750640, 909411017, 2010346792, 3056518332, 2917635127, 1628611511, 3992961016, 3343672598⟩ := round_val _ _ _ _ 29 _ run29 sch29 (by kernel_rfl)
theorem run31 : RUN (SCH AB) (STOF (FIRST 32)) 31 = ⟨3935906338, 2684750640, 909411017, 2010346792, 17410874, 2917635127, 1628611511, 3992961016⟩ := round_val _ _ _ _ 30 _ run30 sch30 (by kernel_rfl)
theorem run32 : RUN (SCH AB) (STOF (FIRST 32)) 32 = ⟨1941126133, 3935906338, 2684750640, 909411017, 3126399250, 17410874, 2917635127, 1628611511⟩ := round_val _ _ _ _ 31 _ run31 sch31 (by kernel_rfl)
theorem run33 : RUN (SCH AB) (STOF (FIRST 32)) 33 = ⟨2564891911, 1941126133, 3935906338, 2684750640, 2631529974, 3126399250, 17410874, 2917635127⟩ := round_val _ _ _ _ 32 _ run32 sch32 (by kernel_rfl)
theorem run34 : RUN (SCH AB) (STOF (FIRST 32)) 34 = ⟨4267724277, 2564891911, 1941126133, 3935906338, 1495571923, 2631529974, 3126399250, 17410874⟩ := round_val _ _ _ _ 33 _ run33 sch33 (by kernel_rfl)
theorem run35 : RUN (SCH AB) (STOF (FIRST 32)) 35 = ⟨2846323596, 4267724277, 2564891911, 1941126133, 140458035, 1495571923, 2631529974, 3126399250⟩ := round_val _ _ _ _ 34 _ run34 sch34 (by kernel_rfl)
theorem run36 : RUN (SCH AB) (STOF (FIRST 32)) 36 = ⟨1705037796, 2846323596, 4267724277, 2564891911, 4105175766, 140458035, 1495571923, 2631529974⟩ := round_val _ _ _ _ 35 _ run35 sch35 (by kernel_rfl)
theorem run37 : RUN (SCH AB) (STOF (FIRST 32)) 37 = ⟨1101421745, 1705037796, 2846323596, 4267724277, 124953195, 4105175766, 140458035, 1495571923⟩ := round_val _ _ _ _ 36 _ run36 sch36 (by kernel_rfl)
theorem run38 : RUN (SCH AB) (STOF (FIRST 32)) 38 = ⟨887035396, 1101421745, 1705037796, 2846323596, 2768741693, 124953195, 4105175766, 140458035⟩ := round_val _ _ _ _ 37 _ run37 sch37 (by kernel_rfl)
theorem run39 : RUN (SCH AB) (STOF (FIRST 32)) 39 = ⟨1841658506, 887035396, 1101421745, 1705037796, 4034403272, 2768741693, 124953195, 4105175766⟩ := round_val _ _ _ _ 38 _ run38 sch38 (by kernel_rfl)
theorem run40 : RUN (SCH AB) (STOF (FIRST 32)) 40 = ⟨2045405306, 1841658506, 887035396, 1101421745, 519815328, 4034403272, 2768741693, 124953195⟩ := round_val _ _ _ _ 39 _ run39 sch39 (by kernel_rfl)
theorem run41 : RUN (SCH AB) (STOF (FIRST 32)) 41 = ⟨3597076326, 2045405306, 1841658506, 887035396, 641019235, 519815328, 4034403272, 2768741693⟩ := round_val _ _ _ _ 40 _ run40 sch40 (by kernel_rfl)
theorem run42 : RUN (SCH AB) (STOF (FIRST 32)) 42 = ⟨3745932591, 3597076326, 2045405306, 1841658506, 2206934801, 641019235, 519815328, 4034403272⟩ := round_val _ _ _ _ 41 _ run41 sch41 (by kernel_rfl)
theorem run43 : RUN (SCH AB) (STOF (FIRST 32)) 43 = ⟨397020670, 3745932591, 3597076326, 2045405306, 3737995029, 2206934801, 641019235, 519815328⟩ := round_val _ _ _ _ 42 _ run42 sch42 (by kernel_rfl)
theorem run44 : RUN (SCH AB) (STOF (FIRST 32)) 44 = ⟨2638983059, 397020670, 3745932591, 3597076326, 4255271982, 3737995029, 2206934801, 641019235⟩ := round_val _ _ _ _ 43 _ run43 sch43 (by kernel_rfl)
theorem run45 : RUN (SCH AB) (STOF (FIRST 32)) 45 = ⟨643991573, 2638983059, 397020670, 3745932591, 2819559920, 4255271982, 3737995029, 2206934801⟩ := round_val _ _ _ _ 44 _ run44 sch44 (by kernel_rfl)
theorem run46 : RUN (SCH AB) (STOF (FIRST 32)) 46 = ⟨1923828625, 643991573, 2638983059, 397020670, 3077922209, 2819559920, 4255271982, 3737995029⟩ := round_val _ _ _ _ 45 _ run45 sch45 (by kernel_rfl)
theorem run47 : RUN (SCH AB) (STOF (FIRST 32)) 47 = ⟨2706117808, 1923828625, 643991573, 2638983059, 3581645993, 3077922209, 2819559920, 4255271982⟩ := round_val _ _ _ _ 46 _ run46 sch46 (by kernel_rfl)
theorem run48 : RUN (SCH AB) (STOF (FIRST 32)) 48 = ⟨1098003085, 2706117808, 1923828625, 643991573, 4274981830, 3581645993, 3077922209, 2819559920⟩ := round_val _ _ _ _ 47 _ run47 sch47 (by kernel_rfl)
theorem run49 : RUN (SCH AB) (STOF (FIRST 32)) 49 = ⟨91585771, 1098003085, 2706117808, 1923828625, 3178315832, 4274981830, 3581645993, 3077922209⟩ := round_val _ _ _ _ 48 _ run48 sch48 (by kernel_rfl)
theorem run50 : RUN (SCH AB) (STOF (FIRST 32)) 50 = ⟨4045142696, 91585771, 1098003085, 2706117808, 1851537676, 3178315832, 4274981830, 3581645993⟩ := round_val _ _ _ _ 49 _ run49 sch49 (by kernel_rfl)
theorem run51 : RUN (SCH AB) (STOF (FIRST 32)) 51 = ⟨2047150241, 4045142696, 91585771, 1098003085, 1391578359, 1851537676, 3178315832, 4274981830⟩ := round_val _ _ _ _ 50 _ run50 sch50 (by kernel_rfl)
theorem run52 : RUN (SCH AB) (STOF (FIRST 32)) 52 = ⟨2288941602, 2047150241, 4045142696, 91585771, 1227037726, 1391578359, 1851537676, 3178315832⟩ := round_val _ _ _ _ 51 _ run51 sch51 (by kernel_rfl)
theorem run53 : RUN (SCH AB) (STOF (FIRST 32)) 53 = ⟨270520975, 2288941602, 2047150241, 4045142696, 1386118400, 1227037726, 1391578359, 1851537676⟩ := round_val _ _ _ _ 52 _ run52 sch52 (by kernel_rfl)
theorem run54 : RUN (SCH AB) (STOF (FIRST 32)) 54 = ⟨4117770203, 270520975, 2288941602, 2047150241, 2672265155, 1386118400, 1227037726, 1391578359⟩ := round_val _ _ _ _ 53 _ run53 sch53 (by kernel_rfl)
theorem run55 : RUN (SCH AB) (STOF (FIRST 32)) 55 = ⟨1053056219, 4117770203, 270520975, 2288941602, 3842906959, 2672265155, 1386118400, 1227037726⟩ := round_val _ _ _ _ 54 _ run54 sch54 (by kernel_rfl)
theorem run56 : RUN (SCH AB) (STOF (FIRST 32)) 56 = ⟨952932627, 1053056219, 4117770203, 270520975, 1422599787, 3842906959, 2672265155, 1386118400⟩ := round_val _ _ _ _ 55 _ run55 sch55 (by kernel_rfl)
theorem run57 : RUN (SCH AB) (STOF (FIRST 32)) 57 = ⟨4241590395, 952932627, 1053056219, 4117770203, 2606665836, 1422599787, 3842906959, 2672265155⟩ := round_val _ _ _ _ 56 _ run56 sch56 (by kernel_rfl)
theorem run58 : RUN (SCH AB) (STOF (FIRST 32)) 58 = ⟨3227702383, 4241590395, 952932627, 1053056219, 2118385806, 2606665836, 1422599787, 3842906959⟩ := round_val _ _ _ _ 57 _ run57 sch57 (by kernel_rfl)
theorem run59 : RUN (SCH AB) (STOF (FIRST 32)) 59 = ⟨4290184306, 3227702383, 4241590395, 952932627, 1837350854, 2118385806, 2606665836, 1422599787⟩ := round_val _ _ _ _ 58 _ run58 sch58 (by kernel_rfl)
theorem run60 : RUN (SCH AB) (STOF (FIRST 32)) 60 = ⟨3064893439, 4290184306, 3227702383, 4241590395, 2988158269, 1837350854, 2118385806, 2606665836⟩ := round_val _ _ _ _ 59 _ run59 sch59 (by kernel_rfl)
theorem run61 : RUN (SCH AB) (STOF (FIRST 32)) 61 = ⟨3093179625, 3064893439, 4290184306, 3227702383, 2518632596, 2988158269, 1837350854, 2118385806⟩ := round_val _ _ _ _ 60 _ run60 sch60 (by kernel_rfl)
theorem run62 : RUN (SCH AB) (STOF (FIRST 32)) 62 = ⟨80891244, 3093179625, 3064893439, 4290184306, 2492278198, 2518632596, 2988158269, 1837350854⟩ := round_val _ _ _ _ 61 _ run61 sch61 (by kernel_rfl)
theorem run63 : RUN (SCH AB) (STOF (FIRST 32)) 63 = ⟨3550093669, 80891244, 3093179625, 3064893439, 4212265488, 2492278198, 2518632596, 2988158269⟩ := round_val _ _ _ _ 62 _ run62 sch62 (by kernel_rfl)
theorem run64 : RUN (SCH AB) (STOF (FIRST 32)) 64 = ⟨1349398616, 3550093669, 80891244, 3093179625, 1593118500, 4212265488, 2492278198, 2518632596⟩ := round_val _ _ _ _ 63 _ run63 sch63 (by kernel_rfl)
theorem abc_length : ([97, 98, 99] ++ END 3).length / 64 = 1 := by rw [List.length_append, END_length]; kernel_rfl
theorem abc_hash (d : Int) : HASHOF d [97, 98, 99] = COMP d (FIRST d) AB := by
  show STATE d ([97, 98, 99] ++ END 3) (([97, 98, 99] ++ END 3).length / 64) = _
  rw [abc_length]
  rfl
theorem out0 : OUTW (FIRST 32) AB 0 = 3128432319 := by
  rw [OUTW, run64]
  kernel_rfl
theorem out7 : OUTW (FIRST 32) AB 7 = 4060091821 := by
  rw [OUTW, run64]
  kernel_rfl
theorem abc_first : HASHOF 32 [97, 98, 99] 0 = 186 := by
  have h := out0
  rw [abc_hash, COMP]
  generalize OUTW (FIRST 32) AB = X at *
  rw [NARROW, if_pos (by decide), BYTEW]
  show X 0 / 2 ^ 24 % 256 = 186
  rw [h]
theorem abc_last : HASHOF 32 [97, 98, 99] 31 = 173 := by
  have h := out7
  rw [abc_hash, COMP]
  generalize OUTW (FIRST 32) AB = X at *
  rw [NARROW, if_pos (by decide), BYTEW]
  show X 7 / 2 ^ 0 % 256 = 173
  rw [h]
theorem abc_narrow : HASHOF 1 [97, 98, 99] 1 = 0 := by
  rw [abc_hash]
  show NARROW 1 _ 1 = 0
  rw [NARROW, if_neg (by decide)]
end Go.Proofs.YtfgbojbhheokjaaGreatDoor.HX

/- awake answers true. -/
namespace Go.Proofs.YtfgbojbhheokjaaGreatDoor.HX
open Go.RowKit
set_option maxRecDepth 100000

theorem index_1 (f : Nat → Nat) (w : World) : (Instr.index 23 (.agg (UARR .u8 32 f)) (.int .i64 1)).run Tryz.prog w = .ok (.int .u8 (f 1 : Nat)) w := by kernel_rfl
theorem abc_text (w : World) : Text (w.alloc (.cells #[.int .u8 97, .int .u8 98, .int .u8 99] 5)) (some ⟨w.heap.size, 0, none⟩) 3 [97, 98, 99] := by
  refine ⟨rfl, fun _ => ⟨w.heap.size, 0, rfl, by simp, fun i hi => ?_⟩, fun x hx => by simp at hx; omega⟩
  rw [World.cell?_alloc_at _ _ _ _ rfl]
  have e : i = 0 ∨ i = 1 ∨ i = 2 := by omega
  rcases e with rfl | rfl | rfl <;> rfl
theorem abc_parts (w : World) : Parts ((w.alloc (.cells #[.int .u8 97, .int .u8 98, .int .u8 99] 5)).alloc (.cells #[.slice (some ⟨w.heap.size, 0, none⟩) 3 3] 38)) (some ⟨w.heap.size + 1, 0, none⟩) 1 [⟨some ⟨w.heap.size, 0, none⟩, 3, 3, [97, 98, 99]⟩] := by
  refine ⟨rfl, fun _ => ⟨w.heap.size + 1, 0, rfl, by simp, fun i p hp => ?_⟩, fun p hp => ?_⟩
  · cases i with
    | zero =>
      simp only [List.getElem?_cons_zero, Option.some.injEq] at hp
      subst hp
      have h : Has ((w.alloc (.cells #[.int .u8 97, .int .u8 98, .int .u8 99] 5)).alloc (.cells #[.slice (some ⟨w.heap.size, 0, none⟩) 3 3] 38)) (w.heap.size + 1) #[.slice (some ⟨w.heap.size, 0, none⟩) 3 3] 38 := Has.at _ _ _ (by simp)
      rw [h.cell]
      rfl
    | succ i => simp at hp
  · simp only [List.mem_singleton] at hp
    subst hp
    exact ⟨(abc_text w).below ((Below.refl _ _).alloc (Nat.le_refl _) _), Nat.le_refl _, fun x hx => by simp only [Option.some.injEq] at hx; rw [← hx]; simp; omega⟩
theorem abc_sum (d : Int) (w : World) (h : Tabled w) : Calls Tryz.prog 47 #[.int .i64 d, .slice (some ⟨w.heap.size + 1, 0, none⟩) 1 1] ((w.alloc (.cells #[.int .u8 97, .int .u8 98, .int .u8 99] 5)).alloc (.cells #[.slice (some ⟨w.heap.size, 0, none⟩) 3 3] 38)) fun e w' => e = .returned (.agg (UARR .u8 32 (HASHOF d [97, 98, 99]))) ∧ Below w.heap.size w w' := by
  have hb : Below w.heap.size w ((w.alloc (.cells #[.int .u8 97, .int .u8 98, .int .u8 99] 5)).alloc (.cells #[.slice (some ⟨w.heap.size, 0, none⟩) 3 3] 38)) := ((Below.refl _ _).alloc (Nat.le_refl _) _).alloc (by simp) _
  refine (sum_ok d (some ⟨w.heap.size + 1, 0, none⟩) 1 1 _ _ (abc_parts w) (h.below hb) (by show 3 < 2 ^ 60; decide) (by decide)).mono ?_
  rintro e w' ⟨he, hb'⟩
  exact ⟨he, hb.trans (hb'.mono hb.size)⟩
end Go.Proofs.YtfgbojbhheokjaaGreatDoor.HX

/- What the law's row answers: the same bytes in a list of their own that goes on behind them. -/
namespace Go.Proofs.YtfgbojbhheokjaaGreatDoor.HX
open Go.RowKit
set_option maxRecDepth 100000

theorem slice_front (a : Option Addr) (r c k : Nat) (hk : k ≤ c) (w : World) : (Instr.slice 38 (.slice a r c) none (some (.int .i64 (k : Int))) none).run Tryz.prog w = .ok (.slice a k c) w := by
  obtain ⟨i8, hi, h8⟩ := Option.map_eq_some_iff.1 info_u8
  simp only [Prod.mk.injEq] at h8
  have he : Tryz.prog.elem 38 = 5 := by kernel_rfl
  have hu : Tryz.prog.underlying 38 = some (.slice (Tryz.prog.elem 38)) := by kernel_rfl
  rw [run_slice_h (P := Tryz.prog) w 38 a r c hu .i64 (k : Int) (by omega) (by omega), he]
  cases a <;> simp [sizeOf, typeInfo, hi, h8.2.1, sliced, Addr.add]
theorem small_snoc {l : List Nat} (h : Small8 l) : Small8 (l ++ [171]) := fun x hx => by
  rcases List.mem_append.1 hx with hx | hx
  · exact h x hx
  · simp at hx
    omega
end Go.Proofs.YtfgbojbhheokjaaGreatDoor.HX

/- What text of package hash answers. -/
namespace Go.Proofs.YtfgbojbhheokjaaGreatDoor.HX
open Go.RowKit
set_option maxRecDepth 100000

theorem make_room (q : Nat) (hq : q ≤ 1000000) (w : World) : (Instr.makeSlice 38 (.int .i64 0) (.int .i64 (q : Int))).run Tryz.prog w = .ok (.slice (some ⟨w.heap.size, 0, none⟩) 0 q) (w.alloc (.cells (BARR q fun _ => 0) 5)) := by
  obtain ⟨i8, hi, h8⟩ := Option.map_eq_some_iff.1 info_u8
  simp only [Prod.mk.injEq] at h8
  have h := run_make (P := Tryz.prog) w 38 5 i8 (.int .u8 0) Tryz.underlying38 hi h8.1 .i64 .i64 0 (q : Int) (by omega) (by omega) (by rw [h8.2.2]; omega) (by omega)
  rw [h8.2.1] at h
  have e : madeCells (Value.int .u8 0).cells (((q : Int).toNat) * 1) = BARR q fun _ => 0 := by
    rw [Int.toNat_natCast, Nat.mul_one]
    exact BARR_made q
  rw [e] at h
  exact h
theorem owns_room (w : World) (q : Nat) (hq : q ≤ 1000000) : (w.alloc (.cells (BARR q fun _ => 0) 5)).ownsRow w.heap.size 5 1 (.slice (some ⟨w.heap.size, 0, none⟩) 0 q) 0 (CELLS (INTS [])) :=
  ⟨by simp [CELLS, INTS], Or.inr ⟨w.heap.size, q, BARR q fun _ => 0, rfl, Nat.le_refl _, Has.new w _ _, Nat.zero_le _, by simp only [maxLen]; omega, by rw [BARR_size]; omega, by simp [CELLS, INTS]⟩⟩
theorem Parts.at {w : World} {a : Option Addr} {k : Nat} {ps : List PART} (h : Parts w a k ps) {i : Nat} (hi : i < k) : ∃ b off p, a = some ⟨b, off, none⟩ ∧ b < w.heap.size ∧ ps[i]? = some p ∧ w.cell? ⟨b, off + i, none⟩ = some (.slice p.a p.n p.c) ∧ Text w p.a p.n p.l ∧ ps.take (i + 1) = ps.take i ++ [p] ∧ p ∈ ps := by
  obtain ⟨b, off, e, hl, hc⟩ := h.2.1 (by omega)
  have hp : ps[i]? = some (ps[i]'(by have := h.1; omega)) := List.getElem?_eq_getElem _
  exact ⟨b, off, _, e, hl, hp, hc i _ hp, (h.2.2 _ (List.mem_of_getElem? hp)).1, by rw [List.take_add_one, hp, Option.toList_some], List.mem_of_getElem? hp⟩

set_option maxHeartbeats 1000000 in
theorem text_ok (o : Nat) (ho : o < 256) (a : Option Addr) (k c : Nat) (ps : List PART) (w : World) (hP : Parts w a k ps) (hnone : ∀ p ∈ ps, p.a = none → p.c = 0) (hlen : (JOIN ps).length < 5000) (hkk : k < 2 ^ 40) : Calls Tryz.prog 72 #[.int .u8 (o : Int), .slice a k c] w fun e w' =>
    ∃ a' c', e = .returned (.slice a' ((JOIN ps).length + 1) c') ∧ w'.ownsRow w.heap.size 5 1 (.slice a' ((JOIN ps).length + 1) c') ((JOIN ps).length + 1) (CELLS (INTS (o :: JOIN ps))) ∧ Below w.heap.size w w' := by
  have H : Aside (Parts w a k ps ∧ (JOIN ps).length < 5000 ∧ k < 2 ^ 40 ∧ (∀ p ∈ ps, p.a = none → p.c = 0) ∧ o < 256) := ⟨hP, hlen, hkk, hnone, ho⟩
  clear hP hlen hkk hnone ho
  go_enter Tryz.func72, Tryz.ntmps72
  go_wp2_with fail
  go_loopg [5, 13] k (fun r s5 s13 wx => ∃ i L : Nat, i + r = k ∧ s13 = .int .i64 i ∧ s5 = .int .i64 L ∧ w = wx ∧ Aside (L = (JOIN (ps.take i)).length + 1))
  case atStart => exact ⟨0, 1, by omega, rfl, rfl, rfl, rfl⟩
  case round =>
    obtain ⟨i, L, hir, rfl, rfl, rfl, A⟩ := hrel
    have hk : ps.length = k := H.out.1.1
    cases gk with
    | zero =>
      obtain rfl : i = k := by omega
      rw [List.take_of_length_le (by omega)] at A
      have hL : L ≤ 1000000 := by have := A.out; have := H.out.2.1; omega
      have hmk := make_room L hL
      have hO : Aside ((w.alloc (.cells (BARR L fun _ => 0) 5)).ownsRow w.heap.size 5 1 (.slice (some ⟨w.heap.size, 0, none⟩) 0 L) 0 (CELLS (INTS []))) := owns_room w L hL
      have HM : Aside (Bytes ((w.alloc (.cells (BARR L fun _ => 0) 5)).alloc (.cells #[.int .u8 (o : Int)] 5)) (some ⟨w.heap.size + 1, 0, none⟩) 1 [(o : Int)]) := by
        have h := row_bytes (w.alloc (.cells (BARR L fun _ => 0) 5)) 1 (fun _ => (o : Int)) [(o : Int)] rfl (fun i hi => by obtain rfl : i = 0 := (by omega); rfl) (fun x hx => by simp at hx; have := H.out.2.2.2.2; omega)
        have e : (w.alloc (.cells (BARR L fun _ => 0) 5)).heap.size = w.heap.size + 1 := by simp
        rw [e] at h
        exact h
      have HB : Aside (Below w.heap.size w ((w.alloc (.cells (BARR L fun _ => 0) 5)).alloc (.cells #[.int .u8 (o : Int)] 5))) := ((Below.refl _ _).alloc (Nat.le_refl _) _).alloc (by simp) _
      clear hL hk hir
      go_wp2_with (at_builtin; refine app_u8 _ rfl (.tmp 23) (.tmp 25) rfl w.heap.size (.slice (some ⟨w.heap.size, 0, none⟩) 0 L) 0 (INTS []) rfl (hO.out.alloc _) (w.heap.size + 1) 0 1 1 [(o : Int)] rfl HM.out (by decide) (by decide) (by simp; omega) ?_; intro g8 cap8 w8 hown8 hgrow8 hg8)
      have S : Aside (w8.ownsRow w.heap.size 5 1 (.slice (some ⟨g8, 0, none⟩) (0 + 1) cap8) (0 + 1) (CELLS (INTS (o :: JOIN (ps.take 0)))) ∧ Below w.heap.size w w8) := ⟨hown8, HB.out.grown hgrow8 (by simp; omega) (fun k e => by simp [Value.ownBlock] at e; omega)⟩
      clear hown8 hgrow8 hg8 HB HM hO hmk A
      go_loopg [8, 29] i (fun r s8 s29 wx => ∃ (j N : Nat) (a8 : Option Addr) (c8 : Nat), j + r = i ∧ s29 = .int .i64 j ∧ s8 = .slice a8 N c8 ∧ Aside (N = (JOIN (ps.take j)).length + 1 ∧ wx.ownsRow w.heap.size 5 1 (.slice a8 N c8) N (CELLS (INTS (o :: JOIN (ps.take j)))) ∧ Below w.heap.size w wx))
      case atStart => exact ⟨0, 0 + 1, _, _, by omega, rfl, rfl, rfl, S.out.1, S.out.2⟩
      case round =>
        obtain ⟨j, N, a8, c8, hjr, rfl, rfl, A⟩ := hrel
        have hk : ps.length = i := H.out.1.1
        cases gk with
        | zero =>
          obtain rfl : j = i := by omega
          rw [List.take_of_length_le (by omega)] at A
          clear hk
          go_wp2
          go_ret
          obtain ⟨e1, e2, e3⟩ := A.out
          subst e1
          exact ⟨a8, c8, rfl, e2, e3⟩
        | succ r =>
          obtain ⟨pb, po, p, rfl, hpb, hpi, hc, ht, htk, hpm⟩ := H.out.1.at (i := j) (by omega)
          have hlt : (j : Int) < (i : Int) := by omega
          have hl1 := JOIN_take_length ps (j + 1)
          rw [htk, JOIN_snoc, List.length_append, ht.1] at hl1
          have hcr := (A.out.2.2.cell (p := ⟨pb, po + j, none⟩) (by exact hpb)).trans hc
          have S2 : Aside (N + p.n = (JOIN (ps.take (j + 1))).length + 1 ∧ j + (r + 1) = i ∧ N + p.n ≤ 140737488355328 ∧ Bytes wr p.a p.n (INTS p.l) ∧ (p.a = none → p.c = 0) ∧ INTS (o :: JOIN (ps.take j)) ++ INTS p.l = INTS (o :: JOIN (ps.take (j + 1)))) := ⟨by rw [htk, JOIN_snoc, List.length_append, ht.1]; have := A.out.1; omega, hjr, by have := A.out.1; have := H.out.2.1; omega, (ht.below A.out.2.2).bytes, H.out.2.2.2.1 p hpm, by rw [htk, JOIN_snoc, ← INTS_append]; rfl⟩
          clear hl1 htk ht hpi hk hc hpm hjr
          go_wp2_with (at_builtin; refine app_any _ rfl (.tmp 33) (.tmp 34) rfl w.heap.size (.slice a8 N c8) N (INTS (o :: JOIN (ps.take j))) rfl A.out.2.1 p.a p.n p.c (INTS p.l) rfl S2.out.2.2.2.1 S2.out.2.2.2.2.1 (N + p.n) (INTS (o :: JOIN (ps.take (j + 1)))) rfl S2.out.2.2.2.2.2 S2.out.2.2.1 A.out.2.2.size ?_; intro a9 c9 w9 hown9 hgrow9)
          go_roundg r
          case measure => omega
          case rel =>
            refine ⟨j + 1, N + p.n, a9, c9, by have := S2.out.2.1; omega, ?_, rfl, S2.out.1, hown9, A.out.2.2.grown hgrow9 A.out.2.2.size (fun k e => (A.out.2.1.lt k e).1)⟩
            have h1 := H.out.2.2.1
            have h2 : wrap64 ((j : Int) + 1) = ((j + 1 : Nat) : Int) := by unfold wrap64; omega
            rw [h2]
    | succ r =>
      obtain ⟨pb, po, p, rfl, hpb, hpi, hc, ht, htk, hpm⟩ := H.out.1.at (i := i) (by omega)
      have hlt : (i : Int) < (k : Int) := by omega
      have hl1 := JOIN_take_length ps (i + 1)
      rw [htk, JOIN_snoc, List.length_append, ht.1] at hl1
      have hw1 : IntKind.i64.wrap ((L : Int) + (p.n : Int)) = ((L + p.n : Nat) : Int) := by rw [IntKind.wrap_i64]; have := A.out; have := H.out.2.1; omega
      have S : Aside (L + p.n = (JOIN (ps.take (i + 1))).length + 1 ∧ i + (r + 1) = k) := ⟨by rw [htk, JOIN_snoc, List.length_append, ht.1]; have := A.out; omega, hir⟩
      clear hl1 htk ht hpi hk
      go_wp2
      go_roundg r
      case measure => omega
      case rel =>
        refine ⟨i + 1, L + p.n, by omega, ?_, ?_, rfl, S.out.1⟩
        · have h1 := H.out.2.2.1
          have h2 : wrap64 ((i : Int) + 1) = ((i + 1 : Nat) : Int) := by unfold wrap64; omega
          rw [h2]
        · go_num
end Go.Proofs.YtfgbojbhheokjaaGreatDoor.HX
