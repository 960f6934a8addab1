/- ClashTrees: part 2. -/
import Derived.Deep.OwnRows
import Derived.Deep.AppendLies
import Derived.Test.YtnimaaflmdoaaaaGreatDoorClashTreesP1
namespace Go.Proofs.YtnimaaflmdoaaaaGreatDoor
open Go.RowKit
set_option maxRecDepth 100000 in
theorem zb3 (x v:Int) (w:World) (h0:(¬ 4294967296<=x)) (h1:(¬ 65536<=x)) (h2:(¬ 256<=x)) (hx:0<=x) (hx':x<256)
  (hv:Aside (∀ h:(x).toNat<(⟨#[0,1,2,2,3,3,3,3,4,4,4,4,4,4,4,4,5,5,5,5,5,5,5,5,5,5,5,5,5,5,5,5,6,6,6,6,6,6,6,6,6,6,6,6,6,6,6,6,6,6,6,6,6,6,6,6,6,6,6,6,6,6,6,6,7,7,7,7,7,7,7,7,7,7,7,7,7,7,7,7,7,7,7,7,7,7,7,7,7,7,7,7,7,7,7,7,7,7,7,7,7,7,7,7,7,7,7,7,7,7,7,7,7,7,7,7,7,7,7,7,7,7,7,7,7,7,7,7,8,8,8,8,8,8,8,8,8,8,8,8,8,8,8,8,8,8,8,8,8,8,8,8,8,8,8,8,8,8,8,8,8,8,8,8,8,8,8,8,8,8,8,8,8,8,8,8,8,8,8,8,8,8,8,8,8,8,8,8,8,8,8,8,8,8,8,8,8,8,8,8,8,8,8,8,8,8,8,8,8,8,8,8,8,8,8,8,8,8,8,8,8,8,8,8,8,8,8,8,8,8,8,8,8,8,8,8,8,8,8,8,8,8,8,8,8,8,8,8,8,8,8,8,8,8,8,8]⟩:ByteArray).size,wrap64 (wrap64 ((⟨#[0,1,2,2,3,3,3,3,4,4,4,4,4,4,4,4,5,5,5,5,5,5,5,5,5,5,5,5,5,5,5,5,6,6,6,6,6,6,6,6,6,6,6,6,6,6,6,6,6,6,6,6,6,6,6,6,6,6,6,6,6,6,6,6,7,7,7,7,7,7,7,7,7,7,7,7,7,7,7,7,7,7,7,7,7,7,7,7,7,7,7,7,7,7,7,7,7,7,7,7,7,7,7,7,7,7,7,7,7,7,7,7,7,7,7,7,7,7,7,7,7,7,7,7,7,7,7,7,8,8,8,8,8,8,8,8,8,8,8,8,8,8,8,8,8,8,8,8,8,8,8,8,8,8,8,8,8,8,8,8,8,8,8,8,8,8,8,8,8,8,8,8,8,8,8,8,8,8,8,8,8,8,8,8,8,8,8,8,8,8,8,8,8,8,8,8,8,8,8,8,8,8,8,8,8,8,8,8,8,8,8,8,8,8,8,8,8,8,8,8,8,8,8,8,8,8,8,8,8,8,8,8,8,8,8,8,8,8,8,8,8,8,8,8,8,8,8,8,8,8,8,8,8,8,8,8]⟩:ByteArray)[(x).toNat]'h).toNat)=v)):Calls Tryz.prog 156 #[.int .u64 x] w fun e w'=>e=.returned (.int .i64 v)/\w=w':=by
 go_enter Tryz.func156,Tryz.ntmps156;go_wp2;go_ret;exact ⟨congrArg (fun z=>Ending.returned (Value.int .i64 z)) (hv.out _),rfl⟩
set_option maxRecDepth 100000 in
theorem zb4 (x v:Int) (w:World) (h0:(¬ 4294967296<=x)) (h1:(¬ 65536<=x)) (h2:(256<=x)) (hx:0<=x / 256) (hx':x / 256<256)
  (hv:Aside (∀ h:(x / 256).toNat<(⟨#[0,1,2,2,3,3,3,3,4,4,4,4,4,4,4,4,5,5,5,5,5,5,5,5,5,5,5,5,5,5,5,5,6,6,6,6,6,6,6,6,6,6,6,6,6,6,6,6,6,6,6,6,6,6,6,6,6,6,6,6,6,6,6,6,7,7,7,7,7,7,7,7,7,7,7,7,7,7,7,7,7,7,7,7,7,7,7,7,7,7,7,7,7,7,7,7,7,7,7,7,7,7,7,7,7,7,7,7,7,7,7,7,7,7,7,7,7,7,7,7,7,7,7,7,7,7,7,7,8,8,8,8,8,8,8,8,8,8,8,8,8,8,8,8,8,8,8,8,8,8,8,8,8,8,8,8,8,8,8,8,8,8,8,8,8,8,8,8,8,8,8,8,8,8,8,8,8,8,8,8,8,8,8,8,8,8,8,8,8,8,8,8,8,8,8,8,8,8,8,8,8,8,8,8,8,8,8,8,8,8,8,8,8,8,8,8,8,8,8,8,8,8,8,8,8,8,8,8,8,8,8,8,8,8,8,8,8,8,8,8,8,8,8,8,8,8,8,8,8,8,8,8,8,8,8,8]⟩:ByteArray).size,wrap64 (8+wrap64 ((⟨#[0,1,2,2,3,3,3,3,4,4,4,4,4,4,4,4,5,5,5,5,5,5,5,5,5,5,5,5,5,5,5,5,6,6,6,6,6,6,6,6,6,6,6,6,6,6,6,6,6,6,6,6,6,6,6,6,6,6,6,6,6,6,6,6,7,7,7,7,7,7,7,7,7,7,7,7,7,7,7,7,7,7,7,7,7,7,7,7,7,7,7,7,7,7,7,7,7,7,7,7,7,7,7,7,7,7,7,7,7,7,7,7,7,7,7,7,7,7,7,7,7,7,7,7,7,7,7,7,8,8,8,8,8,8,8,8,8,8,8,8,8,8,8,8,8,8,8,8,8,8,8,8,8,8,8,8,8,8,8,8,8,8,8,8,8,8,8,8,8,8,8,8,8,8,8,8,8,8,8,8,8,8,8,8,8,8,8,8,8,8,8,8,8,8,8,8,8,8,8,8,8,8,8,8,8,8,8,8,8,8,8,8,8,8,8,8,8,8,8,8,8,8,8,8,8,8,8,8,8,8,8,8,8,8,8,8,8,8,8,8,8,8,8,8,8,8,8,8,8,8,8,8,8,8,8,8]⟩:ByteArray)[(x / 256).toNat]'h).toNat)=v)):Calls Tryz.prog 156 #[.int .u64 x] w fun e w'=>e=.returned (.int .i64 v)/\w=w':=by
 go_enter Tryz.func156,Tryz.ntmps156;go_wp2;go_ret;exact ⟨congrArg (fun z=>Ending.returned (Value.int .i64 z)) (hv.out _),rfl⟩
set_option maxRecDepth 100000 in
theorem zb5 (x v:Int) (w:World) (h0:(¬ 4294967296<=x)) (h1:(65536<=x)) (h2:(¬ 256<=x / 65536)) (hx:0<=x / 65536) (hx':x / 65536<256)
  (hv:Aside (∀ h:(x / 65536).toNat<(⟨#[0,1,2,2,3,3,3,3,4,4,4,4,4,4,4,4,5,5,5,5,5,5,5,5,5,5,5,5,5,5,5,5,6,6,6,6,6,6,6,6,6,6,6,6,6,6,6,6,6,6,6,6,6,6,6,6,6,6,6,6,6,6,6,6,7,7,7,7,7,7,7,7,7,7,7,7,7,7,7,7,7,7,7,7,7,7,7,7,7,7,7,7,7,7,7,7,7,7,7,7,7,7,7,7,7,7,7,7,7,7,7,7,7,7,7,7,7,7,7,7,7,7,7,7,7,7,7,7,8,8,8,8,8,8,8,8,8,8,8,8,8,8,8,8,8,8,8,8,8,8,8,8,8,8,8,8,8,8,8,8,8,8,8,8,8,8,8,8,8,8,8,8,8,8,8,8,8,8,8,8,8,8,8,8,8,8,8,8,8,8,8,8,8,8,8,8,8,8,8,8,8,8,8,8,8,8,8,8,8,8,8,8,8,8,8,8,8,8,8,8,8,8,8,8,8,8,8,8,8,8,8,8,8,8,8,8,8,8,8,8,8,8,8,8,8,8,8,8,8,8,8,8,8,8,8,8]⟩:ByteArray).size,wrap64 (16+wrap64 ((⟨#[0,1,2,2,3,3,3,3,4,4,4,4,4,4,4,4,5,5,5,5,5,5,5,5,5,5,5,5,5,5,5,5,6,6,6,6,6,6,6,6,6,6,6,6,6,6,6,6,6,6,6,6,6,6,6,6,6,6,6,6,6,6,6,6,7,7,7,7,7,7,7,7,7,7,7,7,7,7,7,7,7,7,7,7,7,7,7,7,7,7,7,7,7,7,7,7,7,7,7,7,7,7,7,7,7,7,7,7,7,7,7,7,7,7,7,7,7,7,7,7,7,7,7,7,7,7,7,7,8,8,8,8,8,8,8,8,8,8,8,8,8,8,8,8,8,8,8,8,8,8,8,8,8,8,8,8,8,8,8,8,8,8,8,8,8,8,8,8,8,8,8,8,8,8,8,8,8,8,8,8,8,8,8,8,8,8,8,8,8,8,8,8,8,8,8,8,8,8,8,8,8,8,8,8,8,8,8,8,8,8,8,8,8,8,8,8,8,8,8,8,8,8,8,8,8,8,8,8,8,8,8,8,8,8,8,8,8,8,8,8,8,8,8,8,8,8,8,8,8,8,8,8,8,8,8,8]⟩:ByteArray)[(x / 65536).toNat]'h).toNat)=v)):Calls Tryz.prog 156 #[.int .u64 x] w fun e w'=>e=.returned (.int .i64 v)/\w=w':=by
 go_enter Tryz.func156,Tryz.ntmps156;go_wp2;go_ret;exact ⟨congrArg (fun z=>Ending.returned (Value.int .i64 z)) (hv.out _),rfl⟩
set_option maxRecDepth 100000 in
theorem zb6 (x v:Int) (w:World) (h0:(¬ 4294967296<=x)) (h1:(65536<=x)) (h2:(256<=x / 65536)) (hx:0<=x / 65536 / 256) (hx':x / 65536 / 256<256)
  (hv:Aside (∀ h:(x / 65536 / 256).toNat<(⟨#[0,1,2,2,3,3,3,3,4,4,4,4,4,4,4,4,5,5,5,5,5,5,5,5,5,5,5,5,5,5,5,5,6,6,6,6,6,6,6,6,6,6,6,6,6,6,6,6,6,6,6,6,6,6,6,6,6,6,6,6,6,6,6,6,7,7,7,7,7,7,7,7,7,7,7,7,7,7,7,7,7,7,7,7,7,7,7,7,7,7,7,7,7,7,7,7,7,7,7,7,7,7,7,7,7,7,7,7,7,7,7,7,7,7,7,7,7,7,7,7,7,7,7,7,7,7,7,7,8,8,8,8,8,8,8,8,8,8,8,8,8,8,8,8,8,8,8,8,8,8,8,8,8,8,8,8,8,8,8,8,8,8,8,8,8,8,8,8,8,8,8,8,8,8,8,8,8,8,8,8,8,8,8,8,8,8,8,8,8,8,8,8,8,8,8,8,8,8,8,8,8,8,8,8,8,8,8,8,8,8,8,8,8,8,8,8,8,8,8,8,8,8,8,8,8,8,8,8,8,8,8,8,8,8,8,8,8,8,8,8,8,8,8,8,8,8,8,8,8,8,8,8,8,8,8,8]⟩:ByteArray).size,wrap64 (24+wrap64 ((⟨#[0,1,2,2,3,3,3,3,4,4,4,4,4,4,4,4,5,5,5,5,5,5,5,5,5,5,5,5,5,5,5,5,6,6,6,6,6,6,6,6,6,6,6,6,6,6,6,6,6,6,6,6,6,6,6,6,6,6,6,6,6,6,6,6,7,7,7,7,7,7,7,7,7,7,7,7,7,7,7,7,7,7,7,7,7,7,7,7,7,7,7,7,7,7,7,7,7,7,7,7,7,7,7,7,7,7,7,7,7,7,7,7,7,7,7,7,7,7,7,7,7,7,7,7,7,7,7,7,8,8,8,8,8,8,8,8,8,8,8,8,8,8,8,8,8,8,8,8,8,8,8,8,8,8,8,8,8,8,8,8,8,8,8,8,8,8,8,8,8,8,8,8,8,8,8,8,8,8,8,8,8,8,8,8,8,8,8,8,8,8,8,8,8,8,8,8,8,8,8,8,8,8,8,8,8,8,8,8,8,8,8,8,8,8,8,8,8,8,8,8,8,8,8,8,8,8,8,8,8,8,8,8,8,8,8,8,8,8,8,8,8,8,8,8,8,8,8,8,8,8,8,8,8,8,8,8]⟩:ByteArray)[(x / 65536 / 256).toNat]'h).toNat)=v)):Calls Tryz.prog 156 #[.int .u64 x] w fun e w'=>e=.returned (.int .i64 v)/\w=w':=by
 go_enter Tryz.func156,Tryz.ntmps156;go_wp2;go_ret;exact ⟨congrArg (fun z=>Ending.returned (Value.int .i64 z)) (hv.out _),rfl⟩
set_option maxRecDepth 100000 in
theorem zb7 (x v:Int) (w:World) (h0:(4294967296<=x)) (h1:(¬ 65536<=x / 4294967296)) (h2:(¬ 256<=x / 4294967296)) (hx:0<=x / 4294967296) (hx':x / 4294967296<256)
  (hv:Aside (∀ h:(x / 4294967296).toNat<(⟨#[0,1,2,2,3,3,3,3,4,4,4,4,4,4,4,4,5,5,5,5,5,5,5,5,5,5,5,5,5,5,5,5,6,6,6,6,6,6,6,6,6,6,6,6,6,6,6,6,6,6,6,6,6,6,6,6,6,6,6,6,6,6,6,6,7,7,7,7,7,7,7,7,7,7,7,7,7,7,7,7,7,7,7,7,7,7,7,7,7,7,7,7,7,7,7,7,7,7,7,7,7,7,7,7,7,7,7,7,7,7,7,7,7,7,7,7,7,7,7,7,7,7,7,7,7,7,7,7,8,8,8,8,8,8,8,8,8,8,8,8,8,8,8,8,8,8,8,8,8,8,8,8,8,8,8,8,8,8,8,8,8,8,8,8,8,8,8,8,8,8,8,8,8,8,8,8,8,8,8,8,8,8,8,8,8,8,8,8,8,8,8,8,8,8,8,8,8,8,8,8,8,8,8,8,8,8,8,8,8,8,8,8,8,8,8,8,8,8,8,8,8,8,8,8,8,8,8,8,8,8,8,8,8,8,8,8,8,8,8,8,8,8,8,8,8,8,8,8,8,8,8,8,8,8,8,8]⟩:ByteArray).size,wrap64 (32+wrap64 ((⟨#[0,1,2,2,3,3,3,3,4,4,4,4,4,4,4,4,5,5,5,5,5,5,5,5,5,5,5,5,5,5,5,5,6,6,6,6,6,6,6,6,6,6,6,6,6,6,6,6,6,6,6,6,6,6,6,6,6,6,6,6,6,6,6,6,7,7,7,7,7,7,7,7,7,7,7,7,7,7,7,7,7,7,7,7,7,7,7,7,7,7,7,7,7,7,7,7,7,7,7,7,7,7,7,7,7,7,7,7,7,7,7,7,7,7,7,7,7,7,7,7,7,7,7,7,7,7,7,7,8,8,8,8,8,8,8,8,8,8,8,8,8,8,8,8,8,8,8,8,8,8,8,8,8,8,8,8,8,8,8,8,8,8,8,8,8,8,8,8,8,8,8,8,8,8,8,8,8,8,8,8,8,8,8,8,8,8,8,8,8,8,8,8,8,8,8,8,8,8,8,8,8,8,8,8,8,8,8,8,8,8,8,8,8,8,8,8,8,8,8,8,8,8,8,8,8,8,8,8,8,8,8,8,8,8,8,8,8,8,8,8,8,8,8,8,8,8,8,8,8,8,8,8,8,8,8,8]⟩:ByteArray)[(x / 4294967296).toNat]'h).toNat)=v)):Calls Tryz.prog 156 #[.int .u64 x] w fun e w'=>e=.returned (.int .i64 v)/\w=w':=by
 go_enter Tryz.func156,Tryz.ntmps156;go_wp2;go_ret;exact ⟨congrArg (fun z=>Ending.returned (Value.int .i64 z)) (hv.out _),rfl⟩
set_option maxRecDepth 100000 in
theorem zb8 (x v:Int) (w:World) (h0:(4294967296<=x)) (h1:(¬ 65536<=x / 4294967296)) (h2:(256<=x / 4294967296)) (hx:0<=x / 4294967296 / 256) (hx':x / 4294967296 / 256<256)
  (hv:Aside (∀ h:(x / 4294967296 / 256).toNat<(⟨#[0,1,2,2,3,3,3,3,4,4,4,4,4,4,4,4,5,5,5,5,5,5,5,5,5,5,5,5,5,5,5,5,6,6,6,6,6,6,6,6,6,6,6,6,6,6,6,6,6,6,6,6,6,6,6,6,6,6,6,6,6,6,6,6,7,7,7,7,7,7,7,7,7,7,7,7,7,7,7,7,7,7,7,7,7,7,7,7,7,7,7,7,7,7,7,7,7,7,7,7,7,7,7,7,7,7,7,7,7,7,7,7,7,7,7,7,7,7,7,7,7,7,7,7,7,7,7,7,8,8,8,8,8,8,8,8,8,8,8,8,8,8,8,8,8,8,8,8,8,8,8,8,8,8,8,8,8,8,8,8,8,8,8,8,8,8,8,8,8,8,8,8,8,8,8,8,8,8,8,8,8,8,8,8,8,8,8,8,8,8,8,8,8,8,8,8,8,8,8,8,8,8,8,8,8,8,8,8,8,8,8,8,8,8,8,8,8,8,8,8,8,8,8,8,8,8,8,8,8,8,8,8,8,8,8,8,8,8,8,8,8,8,8,8,8,8,8,8,8,8,8,8,8,8,8,8]⟩:ByteArray).size,wrap64 (40+wrap64 ((⟨#[0,1,2,2,3,3,3,3,4,4,4,4,4,4,4,4,5,5,5,5,5,5,5,5,5,5,5,5,5,5,5,5,6,6,6,6,6,6,6,6,6,6,6,6,6,6,6,6,6,6,6,6,6,6,6,6,6,6,6,6,6,6,6,6,7,7,7,7,7,7,7,7,7,7,7,7,7,7,7,7,7,7,7,7,7,7,7,7,7,7,7,7,7,7,7,7,7,7,7,7,7,7,7,7,7,7,7,7,7,7,7,7,7,7,7,7,7,7,7,7,7,7,7,7,7,7,7,7,8,8,8,8,8,8,8,8,8,8,8,8,8,8,8,8,8,8,8,8,8,8,8,8,8,8,8,8,8,8,8,8,8,8,8,8,8,8,8,8,8,8,8,8,8,8,8,8,8,8,8,8,8,8,8,8,8,8,8,8,8,8,8,8,8,8,8,8,8,8,8,8,8,8,8,8,8,8,8,8,8,8,8,8,8,8,8,8,8,8,8,8,8,8,8,8,8,8,8,8,8,8,8,8,8,8,8,8,8,8,8,8,8,8,8,8,8,8,8,8,8,8,8,8,8,8,8,8]⟩:ByteArray)[(x / 4294967296 / 256).toNat]'h).toNat)=v)):Calls Tryz.prog 156 #[.int .u64 x] w fun e w'=>e=.returned (.int .i64 v)/\w=w':=by
 go_enter Tryz.func156,Tryz.ntmps156;go_wp2;go_ret;exact ⟨congrArg (fun z=>Ending.returned (Value.int .i64 z)) (hv.out _),rfl⟩
set_option maxRecDepth 100000 in
theorem zb9 (x v:Int) (w:World) (h0:(4294967296<=x)) (h1:(65536<=x / 4294967296)) (h2:(¬ 256<=x / 4294967296 / 65536)) (hx:0<=x / 4294967296 / 65536) (hx':x / 4294967296 / 65536<256)
  (hv:Aside (∀ h:(x / 4294967296 / 65536).toNat<(⟨#[0,1,2,2,3,3,3,3,4,4,4,4,4,4,4,4,5,5,5,5,5,5,5,5,5,5,5,5,5,5,5,5,6,6,6,6,6,6,6,6,6,6,6,6,6,6,6,6,6,6,6,6,6,6,6,6,6,6,6,6,6,6,6,6,7,7,7,7,7,7,7,7,7,7,7,7,7,7,7,7,7,7,7,7,7,7,7,7,7,7,7,7,7,7,7,7,7,7,7,7,7,7,7,7,7,7,7,7,7,7,7,7,7,7,7,7,7,7,7,7,7,7,7,7,7,7,7,7,8,8,8,8,8,8,8,8,8,8,8,8,8,8,8,8,8,8,8,8,8,8,8,8,8,8,8,8,8,8,8,8,8,8,8,8,8,8,8,8,8,8,8,8,8,8,8,8,8,8,8,8,8,8,8,8,8,8,8,8,8,8,8,8,8,8,8,8,8,8,8,8,8,8,8,8,8,8,8,8,8,8,8,8,8,8,8,8,8,8,8,8,8,8,8,8,8,8,8,8,8,8,8,8,8,8,8,8,8,8,8,8,8,8,8,8,8,8,8,8,8,8,8,8,8,8,8,8]⟩:ByteArray).size,wrap64 (48+wrap64 ((⟨#[0,1,2,2,3,3,3,3,4,4,4,4,4,4,4,4,5,5,5,5,5,5,5,5,5,5,5,5,5,5,5,5,6,6,6,6,6,6,6,6,6,6,6,6,6,6,6,6,6,6,6,6,6,6,6,6,6,6,6,6,6,6,6,6,7,7,7,7,7,7,7,7,7,7,7,7,7,7,7,7,7,7,7,7,7,7,7,7,7,7,7,7,7,7,7,7,7,7,7,7,7,7,7,7,7,7,7,7,7,7,7,7,7,7,7,7,7,7,7,7,7,7,7,7,7,7,7,7,8,8,8,8,8,8,8,8,8,8,8,8,8,8,8,8,8,8,8,8,8,8,8,8,8,8,8,8,8,8,8,8,8,8,8,8,8,8,8,8,8,8,8,8,8,8,8,8,8,8,8,8,8,8,8,8,8,8,8,8,8,8,8,8,8,8,8,8,8,8,8,8,8,8,8,8,8,8,8,8,8,8,8,8,8,8,8,8,8,8,8,8,8,8,8,8,8,8,8,8,8,8,8,8,8,8,8,8,8,8,8,8,8,8,8,8,8,8,8,8,8,8,8,8,8,8,8,8]⟩:ByteArray)[(x / 4294967296 / 65536).toNat]'h).toNat)=v)):Calls Tryz.prog 156 #[.int .u64 x] w fun e w'=>e=.returned (.int .i64 v)/\w=w':=by
 go_enter Tryz.func156,Tryz.ntmps156;go_wp2;go_ret;exact ⟨congrArg (fun z=>Ending.returned (Value.int .i64 z)) (hv.out _),rfl⟩
set_option maxRecDepth 100000 in
theorem zba (x v:Int) (w:World) (h0:(4294967296<=x)) (h1:(65536<=x / 4294967296)) (h2:(256<=x / 4294967296 / 65536)) (hx:0<=x / 4294967296 / 65536 / 256) (hx':x / 4294967296 / 65536 / 256<256)
  (hv:Aside (∀ h:(x / 4294967296 / 65536 / 256).toNat<(⟨#[0,1,2,2,3,3,3,3,4,4,4,4,4,4,4,4,5,5,5,5,5,5,5,5,5,5,5,5,5,5,5,5,6,6,6,6,6,6,6,6,6,6,6,6,6,6,6,6,6,6,6,6,6,6,6,6,6,6,6,6,6,6,6,6,7,7,7,7,7,7,7,7,7,7,7,7,7,7,7,7,7,7,7,7,7,7,7,7,7,7,7,7,7,7,7,7,7,7,7,7,7,7,7,7,7,7,7,7,7,7,7,7,7,7,7,7,7,7,7,7,7,7,7,7,7,7,7,7,8,8,8,8,8,8,8,8,8,8,8,8,8,8,8,8,8,8,8,8,8,8,8,8,8,8,8,8,8,8,8,8,8,8,8,8,8,8,8,8,8,8,8,8,8,8,8,8,8,8,8,8,8,8,8,8,8,8,8,8,8,8,8,8,8,8,8,8,8,8,8,8,8,8,8,8,8,8,8,8,8,8,8,8,8,8,8,8,8,8,8,8,8,8,8,8,8,8,8,8,8,8,8,8,8,8,8,8,8,8,8,8,8,8,8,8,8,8,8,8,8,8,8,8,8,8,8,8]⟩:ByteArray).size,wrap64 (56+wrap64 ((⟨#[0,1,2,2,3,3,3,3,4,4,4,4,4,4,4,4,5,5,5,5,5,5,5,5,5,5,5,5,5,5,5,5,6,6,6,6,6,6,6,6,6,6,6,6,6,6,6,6,6,6,6,6,6,6,6,6,6,6,6,6,6,6,6,6,7,7,7,7,7,7,7,7,7,7,7,7,7,7,7,7,7,7,7,7,7,7,7,7,7,7,7,7,7,7,7,7,7,7,7,7,7,7,7,7,7,7,7,7,7,7,7,7,7,7,7,7,7,7,7,7,7,7,7,7,7,7,7,7,8,8,8,8,8,8,8,8,8,8,8,8,8,8,8,8,8,8,8,8,8,8,8,8,8,8,8,8,8,8,8,8,8,8,8,8,8,8,8,8,8,8,8,8,8,8,8,8,8,8,8,8,8,8,8,8,8,8,8,8,8,8,8,8,8,8,8,8,8,8,8,8,8,8,8,8,8,8,8,8,8,8,8,8,8,8,8,8,8,8,8,8,8,8,8,8,8,8,8,8,8,8,8,8,8,8,8,8,8,8,8,8,8,8,8,8,8,8,8,8,8,8,8,8,8,8,8,8]⟩:ByteArray)[(x / 4294967296 / 65536 / 256).toNat]'h).toNat)=v)):Calls Tryz.prog 156 #[.int .u64 x] w fun e w'=>e=.returned (.int .i64 v)/\w=w':=by
 go_enter Tryz.func156,Tryz.ntmps156;go_wp2;go_ret;exact ⟨congrArg (fun z=>Ending.returned (Value.int .i64 z)) (hv.out _),rfl⟩
def L8 (i:Nat):Nat:=if i=0 then 0 else if i<2 then 1 else if i<4 then 2 else if i<8 then 3 else if i<16 then 4 else if i<32 then 5 else if i<64 then 6 else if i<128 then 7 else 8
set_option maxRecDepth 100000 in
theorem zep:∀ i,i<256->(([0,1,2,2,3,3,3,3,4,4,4,4,4,4,4,4,5,5,5,5,5,5,5,5,5,5,5,5,5,5,5,5,6,6,6,6,6,6,6,6,6,6,6,6,6,6,6,6,6,6,6,6,6,6,6,6,6,6,6,6,6,6,6,6,7,7,7,7,7,7,7,7,7,7,7,7,7,7,7,7,7,7,7,7,7,7,7,7,7,7,7,7,7,7,7,7,7,7,7,7,7,7,7,7,7,7,7,7,7,7,7,7,7,7,7,7,7,7,7,7,7,7,7,7,7,7,7,7,8,8,8,8,8,8,8,8,8,8,8,8,8,8,8,8,8,8,8,8,8,8,8,8,8,8,8,8,8,8,8,8,8,8,8,8,8,8,8,8,8,8,8,8,8,8,8,8,8,8,8,8,8,8,8,8,8,8,8,8,8,8,8,8,8,8,8,8,8,8,8,8,8,8,8,8,8,8,8,8,8,8,8,8,8,8,8,8,8,8,8,8,8,8,8,8,8,8,8,8,8,8,8,8,8,8,8,8,8,8,8,8,8,8,8,8,8,8,8,8,8,8,8,8,8,8,8,8]:List UInt8).getD i 0).toNat=L8 i:=by decide +kernel
set_option maxRecDepth 100000 in
theorem z2k (i:Nat) (h:i<(⟨#[0,1,2,2,3,3,3,3,4,4,4,4,4,4,4,4,5,5,5,5,5,5,5,5,5,5,5,5,5,5,5,5,6,6,6,6,6,6,6,6,6,6,6,6,6,6,6,6,6,6,6,6,6,6,6,6,6,6,6,6,6,6,6,6,7,7,7,7,7,7,7,7,7,7,7,7,7,7,7,7,7,7,7,7,7,7,7,7,7,7,7,7,7,7,7,7,7,7,7,7,7,7,7,7,7,7,7,7,7,7,7,7,7,7,7,7,7,7,7,7,7,7,7,7,7,7,7,7,8,8,8,8,8,8,8,8,8,8,8,8,8,8,8,8,8,8,8,8,8,8,8,8,8,8,8,8,8,8,8,8,8,8,8,8,8,8,8,8,8,8,8,8,8,8,8,8,8,8,8,8,8,8,8,8,8,8,8,8,8,8,8,8,8,8,8,8,8,8,8,8,8,8,8,8,8,8,8,8,8,8,8,8,8,8,8,8,8,8,8,8,8,8,8,8,8,8,8,8,8,8,8,8,8,8,8,8,8,8,8,8,8,8,8,8,8,8,8,8,8,8,8,8,8,8,8,8]⟩:ByteArray).size):((⟨#[0,1,2,2,3,3,3,3,4,4,4,4,4,4,4,4,5,5,5,5,5,5,5,5,5,5,5,5,5,5,5,5,6,6,6,6,6,6,6,6,6,6,6,6,6,6,6,6,6,6,6,6,6,6,6,6,6,6,6,6,6,6,6,6,7,7,7,7,7,7,7,7,7,7,7,7,7,7,7,7,7,7,7,7,7,7,7,7,7,7,7,7,7,7,7,7,7,7,7,7,7,7,7,7,7,7,7,7,7,7,7,7,7,7,7,7,7,7,7,7,7,7,7,7,7,7,7,7,8,8,8,8,8,8,8,8,8,8,8,8,8,8,8,8,8,8,8,8,8,8,8,8,8,8,8,8,8,8,8,8,8,8,8,8,8,8,8,8,8,8,8,8,8,8,8,8,8,8,8,8,8,8,8,8,8,8,8,8,8,8,8,8,8,8,8,8,8,8,8,8,8,8,8,8,8,8,8,8,8,8,8,8,8,8,8,8,8,8,8,8,8,8,8,8,8,8,8,8,8,8,8,8,8,8,8,8,8,8,8,8,8,8,8,8,8,8,8,8,8,8,8,8,8,8,8,8]⟩:ByteArray)[i]'h).toNat=L8 i:=by
 have h2:i<256:=h;have:=zep i h2;rw [List.getD_eq_getElem?_getD,List.getElem?_eq_getElem (by exact h)] at this;exact this
theorem z2K (i:Nat):L8 i<=8:=by unfold L8;repeat' split <;> try omega
theorem zac (i:Nat) (h0:i≠0) (h:i<256):1<=L8 i/\2 ^ (L8 i - 1)<=i/\i<2 ^ L8 i:=by
 unfold L8;repeat' split
 all_goals (try omega)
theorem z2E (n i:Nat) (hn:n<=56):wrap64 ((n:Int)+wrap64 ((L8 i:Nat):Int))=((n+L8 i:Nat):Int):=by
 have:=z2K i;unfold wrap64;omega
theorem zeq (i:Nat):wrap64 (wrap64 ((L8 i:Nat):Int))=((L8 i:Nat):Int):=by
 have:=z2K i;unfold wrap64;omega
def LEN (X:Nat):Nat:=
 if 4294967296<=X then (if 281474976710656<=X then (if 72057594037927936<=X then 56+L8 (X / 72057594037927936) else 48+L8 (X / 281474976710656)) else (if 1099511627776<=X then 40+L8 (X / 1099511627776) else 32+L8 (X / 4294967296)))
 else (if 65536<=X then (if 16777216<=X then 24+L8 (X / 16777216) else 16+L8 (X / 65536)) else (if 256<=X then 8+L8 (X / 256) else L8 X))
theorem zcu (X:Nat) (hX:X<2 ^ 64) (h0:¬ 4294967296<=X) (h1:¬ 65536<=X) (h2:¬ 256<=X) (w:World):Calls Tryz.prog 156 #[.int .u64 (X:Int)] w fun e w'=>e=.returned (.int .i64 ((0+L8 (X / 1):Nat):Int))/\w=w':=by
 have e:((X:Int)).toNat=X / 1:=by omega
 refine zb3 X _ w (by omega) (by omega) (by omega) (by omega) (by omega) fun h=>?_;rw [z2k _ h,e];exact (zeq _).trans (by rw [Nat.zero_add])
theorem zcv (X:Nat) (hX:X<2 ^ 64) (h0:¬ 4294967296<=X) (h1:¬ 65536<=X) (h2:256<=X) (w:World):Calls Tryz.prog 156 #[.int .u64 (X:Int)] w fun e w'=>e=.returned (.int .i64 ((8+L8 (X / 256):Nat):Int))/\w=w':=by
 have e:((X:Int) / 256).toNat=X / 256:=by omega
 refine zb4 X _ w (by omega) (by omega) (by omega) (by omega) (by omega) fun h=>?_;rw [z2k _ h,e];exact z2E 8 _ (by decide)
theorem zcw (X:Nat) (hX:X<2 ^ 64) (h0:¬ 4294967296<=X) (h1:65536<=X) (h2:¬ 16777216<=X) (w:World):Calls Tryz.prog 156 #[.int .u64 (X:Int)] w fun e w'=>e=.returned (.int .i64 ((16+L8 (X / 65536):Nat):Int))/\w=w':=by
 have e:((X:Int) / 65536).toNat=X / 65536:=by omega
 refine zb5 X _ w (by omega) (by omega) (by omega) (by omega) (by omega) fun h=>?_;rw [z2k _ h,e];exact z2E 16 _ (by decide)
theorem zcx (X:Nat) (hX:X<2 ^ 64) (h0:¬ 4294967296<=X) (h1:65536<=X) (h2:16777216<=X) (w:World):Calls Tryz.prog 156 #[.int .u64 (X:Int)] w fun e w'=>e=.returned (.int .i64 ((24+L8 (X / 16777216):Nat):Int))/\w=w':=by
 have e:((X:Int) / 65536 / 256).toNat=X / 16777216:=by omega
 refine zb6 X _ w (by omega) (by omega) (by omega) (by omega) (by omega) fun h=>?_;rw [z2k _ h,e];exact z2E 24 _ (by decide)
theorem zcy (X:Nat) (hX:X<2 ^ 64) (h0:4294967296<=X) (h1:¬ 281474976710656<=X) (h2:¬ 1099511627776<=X) (w:World):Calls Tryz.prog 156 #[.int .u64 (X:Int)] w fun e w'=>e=.returned (.int .i64 ((32+L8 (X / 4294967296):Nat):Int))/\w=w':=by
 have e:((X:Int) / 4294967296).toNat=X / 4294967296:=by omega
 refine zb7 X _ w (by omega) (by omega) (by omega) (by omega) (by omega) fun h=>?_;rw [z2k _ h,e];exact z2E 32 _ (by decide)
theorem zcz (X:Nat) (hX:X<2 ^ 64) (h0:4294967296<=X) (h1:¬ 281474976710656<=X) (h2:1099511627776<=X) (w:World):Calls Tryz.prog 156 #[.int .u64 (X:Int)] w fun e w'=>e=.returned (.int .i64 ((40+L8 (X / 1099511627776):Nat):Int))/\w=w':=by
 have e:((X:Int) / 4294967296 / 256).toNat=X / 1099511627776:=by omega
 refine zb8 X _ w (by omega) (by omega) (by omega) (by omega) (by omega) fun h=>?_;rw [z2k _ h,e];exact z2E 40 _ (by decide)
theorem zcA (X:Nat) (hX:X<2 ^ 64) (h0:4294967296<=X) (h1:281474976710656<=X) (h2:¬ 72057594037927936<=X) (w:World):Calls Tryz.prog 156 #[.int .u64 (X:Int)] w fun e w'=>e=.returned (.int .i64 ((48+L8 (X / 281474976710656):Nat):Int))/\w=w':=by
 have e:((X:Int) / 4294967296 / 65536).toNat=X / 281474976710656:=by omega
 refine zb9 X _ w (by omega) (by omega) (by omega) (by omega) (by omega) fun h=>?_;rw [z2k _ h,e];exact z2E 48 _ (by decide)
theorem zcB (X:Nat) (hX:X<2 ^ 64) (h0:4294967296<=X) (h1:281474976710656<=X) (h2:72057594037927936<=X) (w:World):Calls Tryz.prog 156 #[.int .u64 (X:Int)] w fun e w'=>e=.returned (.int .i64 ((56+L8 (X / 72057594037927936):Nat):Int))/\w=w':=by
 have e:((X:Int) / 4294967296 / 65536 / 256).toNat=X / 72057594037927936:=by omega
 refine zba X _ w (by omega) (by omega) (by omega) (by omega) (by omega) fun h=>?_;rw [z2k _ h,e];exact z2E 56 _ (by decide)
theorem zgU (X:Nat) (hX:X<2 ^ 64) (w:World):Calls Tryz.prog 156 #[.int .u64 (X:Int)] w fun e w'=>e=.returned (.int .i64 ((LEN X:Nat):Int))/\w=w':=by
 unfold LEN;split
 ·split
  ·split
   ·exact zcB X hX (by omega) (by omega) (by omega) w
   ·exact zcA X hX (by omega) (by omega) (by omega) w
  ·split
   ·exact zcz X hX (by omega) (by omega) (by omega) w
   ·exact zcy X hX (by omega) (by omega) (by omega) w
 ·split
  ·split
   ·exact zcx X hX (by omega) (by omega) (by omega) w
   ·exact zcw X hX (by omega) (by omega) (by omega) w
  ·split
   ·exact zcv X hX (by omega) (by omega) (by omega) w
   ·have k:=zcu X hX (by omega) (by omega) (by omega) w
    rw [Nat.div_one,Nat.zero_add] at k;exact k
theorem z2F {X n:Nat} (h0:X / 2 ^ n≠0) (h:X / 2 ^ n<256):1<=n+L8 (X / 2 ^ n)/\2 ^ (n+L8 (X / 2 ^ n) - 1)<=X/\X<2 ^ (n+L8 (X / 2 ^ n)):=by
 obtain ⟨a,b,c⟩:=zac _ h0 h;have hp:=Nat.two_pow_pos n;refine ⟨by omega,?_,?_⟩
 ·rw [show n+L8 (X / 2 ^ n) - 1=n+(L8 (X / 2 ^ n) - 1) by omega,Nat.pow_add]
  exact Nat.le_trans (Nat.mul_le_mul_left _ b) (Nat.mul_div_le X (2 ^ n))
 ·rw [Nat.pow_add,Nat.mul_comm]
  exact (Nat.div_lt_iff_lt_mul hp).1 c
theorem z89 (X:Nat) (hX:X<2 ^ 64) (h0:X≠0):1<=LEN X/\2 ^ (LEN X - 1)<=X/\X<2 ^ LEN X:=by
 unfold LEN;split
 ·split
  ·split
   ·exact z2F (n:=56) (by omega) (by omega)
   ·exact z2F (n:=48) (by omega) (by omega)
  ·split
   ·exact z2F (n:=40) (by omega) (by omega)
   ·exact z2F (n:=32) (by omega) (by omega)
 ·split
  ·split
   ·exact z2F (n:=24) (by omega) (by omega)
   ·exact z2F (n:=16) (by omega) (by omega)
  ·split
   ·exact z2F (n:=8) (by omega) (by omega)
   ·exact zac X h0 (by omega)
theorem zer (x r:Int) (w:World) (c:∀ w,Calls Tryz.prog 156 #[.int .u64 x] w fun e w'=>e=.returned (.int .i64 r)/\w=w') (h0:0<=r) (h1:r<=64):
  Calls Tryz.prog 122 #[.int .u64 x] w fun e w'=>e=.returned (.int .i64 (r - 1))/\w=w':=by
 go_enter Tryz.func122,Tryz.ntmps122;go_wp2_with fail
 refine (c _).mono ?_;rintro e w' ⟨rfl,rfl⟩;go_wp2;go_ret;exact ⟨rfl,rfl⟩
theorem zcC {h:Nat} (hh:h<=63):MASK ((h:Int)+1)=TREE h:=by
 unfold MASK TREE;rw [show min ((h:Int)+1).toNat 64=h+1 by omega]
theorem zes (h r:Int) (w:World) (e:wrap64 (h+1)=h+1) (c:∀ w,Calls Tryz.prog 149 #[.int .i64 (h+1)] w fun e w'=>e=.returned (.int .u64 r)/\w=w'):
  Calls Tryz.prog 123 #[.int .i64 h] w fun e w'=>e=.returned (.int .u64 r)/\w=w':=by
 go_enter Tryz.func123,Tryz.ntmps123;go_wp2_with fail
 refine (c _).mono ?_;rintro e w' ⟨rfl,rfl⟩;go_wp2;go_ret;exact ⟨rfl,rfl⟩
theorem z35 (h:Nat) (hh:h<=63) (w:World):Calls Tryz.prog 123 #[.int .i64 (h:Int)] w fun e w'=>e=.returned (.int .u64 ((TREE h:Nat):Int))/\w=w':=by
 refine zes h _ w (by unfold wrap64;omega) (fun w=>?_);rw [<-zcC hh];exact zfU ((h:Int)+1) (by omega) w
theorem zcD (n c r:Int) (w:World) (e:IntKind.u64.wrap (IntKind.u64.wrap (n*2) - IntKind.u64.wrap c)=r) (k:∀ w,Calls Tryz.prog 119 #[.int .u64 n] w fun e w'=>e=.returned (.int .i64 c)/\w=w'):
  Calls Tryz.prog 74 #[.int .u64 n] w fun e w'=>e=.returned (.int .u64 r)/\w=w':=by
 go_enter Tryz.func74,Tryz.ntmps74;go_wp2_with fail
 refine (k _).mono ?_;rintro e w' ⟨rfl,rfl⟩;go_wp2;go_ret;exact ⟨rfl,rfl⟩
theorem z8a (n:Nat) (hn:n<2 ^ 63) (w:World):Calls Tryz.prog 74 #[.int .u64 (n:Int)] w fun e w'=>e=.returned (.int .u64 ((z05 n:Nat):Int))/\w=w':=by
 refine zcD n (POP n:Nat) _ w ?_ (fun w=>z6E n (by omega) w);rw [z4G (by omega),z0k,z0k,z0k];have:=z0T n;have:=zfK n;omega
theorem zet (n r:Int) (w:World) (h':¬ 4611686018427387904<=n) (c:∀ w,Calls Tryz.prog 74 #[.int .u64 n] w fun e w'=>e=.returned (.int .u64 r)/\w=w'):
  Calls Tryz.prog 36 #[.int .u64 n] w fun e w'=>e=.returned (.tuple #[.int .u64 r,.bool true])/\w=w':=by
 go_enter Tryz.func36,Tryz.ntmps36;go_wp2_with fail
 refine (c _).mono ?_;rintro e w' ⟨rfl,rfl⟩;go_wp2;go_ret2;exact ⟨rfl,rfl⟩
theorem leaf_ok (n:Nat) (hn:n<4611686018427387904) (w:World):Calls Tryz.prog 36 #[.int .u64 (n:Int)] w fun e w'=>e=.returned (.tuple #[.int .u64 ((z05 n:Nat):Int),.bool true])/\w=w':=
 zet n _ w (by omega) (fun w=>z8a n (by omega) w)
theorem zbb (p h:Int) (w:World):Calls Tryz.prog 101 #[.int .u64 p,.int .i64 h,.bool true] w fun e w'=>e=.returned (.int .u64 (IntKind.u64.wrap (p+1)))/\w=w':=by
 go_enter Tryz.func101,Tryz.ntmps101;go_wp2;go_ret;exact ⟨rfl,rfl⟩
theorem zcE (p h t:Int) (w:World) (c:∀ w,Calls Tryz.prog 123 #[.int .i64 h] w fun e w'=>e=.returned (.int .u64 t)/\w=w'):
  Calls Tryz.prog 101 #[.int .u64 p,.int .i64 h,.bool false] w fun e w'=>e=.returned (.int .u64 (IntKind.u64.wrap (IntKind.u64.wrap (p+t)+1)))/\w=w':=by
 go_enter Tryz.func101,Tryz.ntmps101;go_wp2_with fail
 refine (c _).mono ?_;rintro e w' ⟨rfl,rfl⟩;go_wp2;go_ret;exact ⟨rfl,rfl⟩
theorem z8b (p h t:Int) (w:World) (c:∀ w,Calls Tryz.prog 123 #[.int .i64 h] w fun e w'=>e=.returned (.int .u64 t)/\w=w'):
  Calls Tryz.prog 100 #[.int .u64 p,.int .i64 h,.bool true] w fun e w'=>e=.returned (.int .u64 (IntKind.u64.wrap (p - t)))/\w=w':=by
 go_enter Tryz.func100,Tryz.ntmps100;go_wp2_with fail
 refine (c _).mono ?_;rintro e w' ⟨rfl,rfl⟩;go_wp2;go_ret;exact ⟨rfl,rfl⟩
theorem z9o (p h t:Int) (w:World) (c:∀ w,Calls Tryz.prog 123 #[.int .i64 h] w fun e w'=>e=.returned (.int .u64 t)/\w=w'):
  Calls Tryz.prog 100 #[.int .u64 p,.int .i64 h,.bool false] w fun e w'=>e=.returned (.int .u64 (IntKind.u64.wrap (p+t)))/\w=w':=by
 go_enter Tryz.func100,Tryz.ntmps100;go_wp2_with fail
 refine (c _).mono ?_;rintro e w' ⟨rfl,rfl⟩;go_wp2;go_ret;exact ⟨rfl,rfl⟩
def PL:Nat->Nat->Nat->List Nat
 | 0,_,_=>[]
 | k+1,o,X=>if X % 2=1 then o :: PL k (o+1) (X / 2) else PL k (o+1) (X / 2)
def z0w (X:Nat):List Nat:=PL 64 0 X
theorem z6F:∀ k o,PL k o 0=[]
 | 0,_=>rfl
 | k+1,o=>by
   have:=z6F k (o+1);simpa [PL] using this
theorem z7c:∀ k o X,(PL k o X).length=DSUM 1 k X
 | 0,_,_=>rfl
 | k+1,o,X=>by
   have ih:=z7c k (o+1) (X / 2);unfold PL DSUM;rw [Nat.pow_one];split
   ·rw [List.length_cons,ih];omega
   ·rw [ih];omega
theorem z0L (X:Nat):(z0w X).length=POP X:=z7c 64 0 X
theorem zad:∀ (t k o q:Nat),t<k->PL k o (2 ^ t*(2*q+1))=(o+t) :: PL k o (2 ^ (t+1)*q)
 | 0,0,_,_,h=>by omega
 | 0,k+1,o,q,_=>by
   have h1:(2 ^ 0*(2*q+1))=2*q+1:=by simp
   have h2:2 ^ (0+1)*q=2*q:=by simp
   rw [h1,h2];unfold PL;rw [if_pos (by omega),if_neg (by omega),show (2*q+1) / 2=q by omega,show 2*q / 2=q by omega];rfl
 | t+1,0,_,_,h=>by omega
 | t+1,k+1,o,q,h=>by
   have ih:=zad t k (o+1) q (by omega);have h1:2 ^ (t+1)*(2*q+1)=2*(2 ^ t*(2*q+1)):=by rw [Nat.pow_succ,Nat.mul_comm (2 ^ t) 2,Nat.mul_assoc]
   have h2:2 ^ (t+1+1)*q=2*(2 ^ (t+1)*q):=by rw [Nat.pow_succ,Nat.mul_comm (2 ^ (t+1)) 2,Nat.mul_assoc]
   rw [h1,h2];generalize 2 ^ t*(2*q+1)=a at ih ⊢;generalize 2 ^ (t+1)*q=b at ih ⊢;unfold PL;rw [if_neg (by omega),if_neg (by omega),show 2*a / 2=a by omega,show 2*b / 2=b by omega,ih,show o+(t+1)=o+1+t by omega]
theorem z5V (X:Nat):POP X<=64:=by
 have:∀ k X,DSUM 1 k X<=k:=fun k=>by
  induction k with
  | zero=>intro X;exact Nat.le_refl _
  | succ k ih=>
    intro X;have:=ih (X / 2);unfold DSUM;rw [Nat.pow_one];omega
 exact this 64 X
theorem zeu (q:Nat):(2*q+1) &&& (2*q)=2*q:=by
 apply Nat.eq_of_testBit_eq;intro i;rw [Nat.testBit_and];cases i with
 | zero=>simp [Nat.testBit_zero]
 | succ i=>
   rw [Nat.testBit_succ,Nat.testBit_succ,show (2*q+1) / 2=q by omega,show 2*q / 2=q by omega];simp
theorem z8c:∀ (t q:Nat),2 ^ t*(2*q+1) &&& (2 ^ t*(2*q+1) - 1)=2 ^ (t+1)*q
 | 0,q=>by
   have h1:(2 ^ 0*(2*q+1))=2*q+1:=by simp
   have h2:2 ^ (0+1)*q=2*q:=by simp
   rw [h1,h2];exact zeu q
 | t + 1,q=>by
   have ih:=z8c t q;have h1:2 ^ (t+1)*(2*q+1)=2*(2 ^ t*(2*q+1)):=by rw [Nat.pow_succ,Nat.mul_comm (2 ^ t) 2,Nat.mul_assoc]
   have h2:2 ^ (t+1+1)*q=2*(2 ^ (t+1)*q):=by rw [Nat.pow_succ,Nat.mul_comm (2 ^ (t+1)) 2,Nat.mul_assoc]
   have hp:0<2 ^ t*(2*q+1):=Nat.mul_pos (Nat.two_pow_pos t) (by omega);rw [h1,h2,<-ih];generalize 2 ^ t*(2*q+1)=a at hp ⊢;apply Nat.eq_of_testBit_eq;intro i;rw [Nat.testBit_and];cases i with
   | zero=>simp [Nat.testBit_zero]
   | succ i=>
     rw [Nat.testBit_succ,Nat.testBit_succ,Nat.testBit_succ,show 2*a / 2=a by omega,show (2*a - 1) / 2=a - 1 by omega,<-Nat.testBit_and,show 2*(a &&& (a - 1)) / 2=a &&& (a - 1) by omega]
def z1g (l:List Nat):List Value:=l.map fun (x:Nat)=>Value.int .i64 (x:Int)
theorem z9p (l:List Nat) (x:Nat):z1g (l ++ [x])=z1g l ++ [.int .i64 (x:Int)]:=by simp [z1g]
theorem z3O:∃ i,Tryz.prog.info? 3=some i/\i.zero=some (.int .i64 0)/\i.size=1/\i.bytes=8:=by
 have h:(Tryz.prog.info? 3).map (fun i=>(i.zero,i.size,i.bytes))=some (some (.int .i64 0),1,8):=by kernel_rfl
 obtain ⟨i,hi,h⟩:=Option.map_eq_some_iff.1 h;simp only [Prod.mk.injEq] at h;exact ⟨i,hi,h.1,h.2.1,h.2.2⟩
theorem zfZ {ops:Array Oper} {rest:List Oper} {o:Oper} {a:Act} {Q:Exit->Act->World->Prop} (w:World) (hgd:o.guard=none) (s x:Operand)
  (ho:o.op=.call {callee:=.builtin .append,args:=#[s,x],argTypes:=#[176,176]})
  (base:Nat) (v:Value) (n:Nat) (xs:List Nat) (hs:a.eval s=v) (hown:w.ownsRow base 3 1 v n (z1g xs))
  (b c:Nat) (y:Nat) (hx:a.eval x=.slice (some ⟨b,0,none⟩) 1 c) (hc:w.cell? ⟨b,0,none⟩=some (.int .i64 (y:Int)))
  (hb:n<=1000) (hbase:base<=w.heap.size)
  (h:∀ g cap w',w'.ownsRow base 3 1 (.slice (some ⟨g,0,none⟩) (n+1) cap) (n+1) (z1g (xs ++ [y]))->w.grownBy w' v.ownBlock->g<w'.heap.size->wpList Tryz.prog ops Q rest (a.put o.dst (.slice (some ⟨g,0,none⟩) (n+1) cap)) w'):wpList Tryz.prog ops Q (o :: rest) a w:=by
 obtain ⟨i,hi,hz,hs1,hby⟩:=z3O;refine wpList_append_lies w hgd s x 176 ho base 3 i (.int .i64 0) 1 8 Tryz.underlying176 hi hz hs1 hby rfl (by decide) v n (z1g xs) hs hown ⟨b,0,none⟩ 1 c [.int .i64 (y:Int)] hx rfl ?_ (fun u hu=>by simp at hu;subst hu;rfl) (by decide) (by simp only [maxLen];omega) (by omega) hbase w.heap.size rfl ?_
 ·intro j u hj
  cases j with
  | zero=>
    simp only [List.getElem?_cons_zero,Option.some.injEq] at hj;subst hj;exact hc
  | succ j=>simp at hj
 ·intro g cap w' h1 h2 _ h4
  rw [<-z9p] at h1;exact h g cap w' h1 h2 h4
theorem zcF (n:Nat) (hn:n<=64) (w:World):∃ cur:Array Value,cur.size=n/\(Instr.makeSlice 176 (.int .i64 0) (.int .i64 (n:Int))).run Tryz.prog w=.ok (.slice (some ⟨w.heap.size,0,none⟩) 0 n) (w.alloc (.cells cur 3)):=by
 obtain ⟨i,hi,hz,hs1,hby⟩:=z3O;have h:=run_make (P:=Tryz.prog) w 176 3 i (.int .i64 0) Tryz.underlying176 hi hz .i64 .i64 0 n (by omega) (by omega) (by rw [hby];omega) (by omega);refine ⟨_,?_,h⟩;rw [size_madeCells,hs1];omega
theorem Tabled.below {w w':World} (h:Tabled w) (_:0<w.heap.size) (hb:Below w.heap.size w w'):Tabled w':=fun i hi=>(hb.cell (by exact World.block_lt_of_cell? _ _ (h i hi))).trans (h i hi)
theorem zg0 (X:Nat) (hX:X<2 ^ 64) (w:World) (hT:Tabled w) (h0:0<w.heap.size):Calls Tryz.prog 128 #[.int .u64 (X:Int)] w fun e w'=>
  ∃ g cap,e=.returned (.slice (some ⟨g,0,none⟩) (POP X) cap)/\w'.ownsRow w.heap.size 3 1 (.slice (some ⟨g,0,none⟩) (POP X) cap) (POP X) (z1g (z0w X))/\g<w'.heap.size/\Below w.heap.size w w':=by
 obtain ⟨cur,hcs,hmk⟩:=zcF (POP X) (z5V X) w;have HX:Aside (X<2 ^ 64):=hX;have HT:Aside (Tabled w/\0<w.heap.size/\cur.size=POP X):=⟨hT,h0,hcs⟩
 have c1:=z6E X hX;clear hX hT h0 hcs;generalize hp:POP X=p at *
 have HP:Aside (POP X=p):=hp;clear hp;go_enter Tryz.func128,Tryz.ntmps128;go_wp2_with fail
 refine (c1 _).mono ?_;rintro e w' ⟨rfl,rfl⟩;clear c1;go_wp2;go_loopg [0,3] p (fun g s0 s2 wx=>∃ (x:Nat),Aside (∃ l:List Nat,l ++ z0w x=z0w X/\x<2 ^ 64/\g=POP x/\wx.ownsRow w.heap.size 3 1 s2 l.length (z1g l)/\(∃ b cap,s2=.slice (some ⟨b,0,none⟩) l.length cap/\b<wx.heap.size)/\Below w.heap.size w wx)/\s0=.int .u64 (x:Int))
 case atStart=>exact ⟨X,⟨[],rfl,HX.out,HP.out.symm,World.ownsRow_made w cur p (Nat.le_refl _) (by have:=z5V X;rw [HP.out] at this;simp only [maxLen];omega) (by rw [HT.out.2.2];omega),⟨_,_,rfl,by simp⟩,(Below.refl _ _).alloc (Nat.le_refl _) _⟩,rfl⟩
 case round=>
  obtain ⟨x,A,rfl⟩:=hrel;clear hmk;cases hx:((x:Int) == 0) with
  | true=>
    obtain ⟨l,hl,hxl,hg,hown,⟨b,cap,hs,hb⟩,hbel⟩:=A.out;have hx0:x=0:=by simpa using hx
    have hl2:l=z0w X:=by
     rw [hx0,show z0w 0=[] from z6F 64 0,List.append_nil] at hl;exact hl
    have hlen:l.length=p:=by rw [hl2,z0L,HP.out]
    subst hs;rw [hlen,hl2] at hown;have R:Aside (wr.ownsRow w.heap.size 3 1 (.slice (some ⟨b,0,none⟩) p cap) p (z1g (z0w X))/\b<wr.heap.size/\Below w.heap.size w wr/\l.length=p):=⟨hown,hb,hbel,hlen⟩
    clear A hl hxl hg hown hb hbel hx0 hl2 hlen HX HT HP;go_wp2;go_ret;obtain ⟨h1,h2,h3,h4⟩:=R.out;refine ⟨b,cap,?_,h1,h2,h3⟩;rw [<-h4];rfl
  | false=>
    obtain ⟨l,hl,hxl,hg,hown,⟨b,cap,hs,hb⟩,hbel⟩:=A.out;have hx0:x≠0:=by simpa using hx
    obtain ⟨t,q,e⟩:=zct x hx0;have ht:t<64:=(zab hxl e).2;have cl:=zfY x t wr (zht x t q hxl e wr (HT.out.1.below HT.out.2.1 hbel));obtain ⟨y,hy⟩:∃ y,y=2 ^ (t+1)*q:=⟨_,rfl⟩
    have hya:x &&& (x - 1)=y:=by rw [e,hy];exact z8c t q
    have hstep:z0w x=t :: z0w y:=by
     rw [e,hy];have:=zad t 64 0 q ht;rw [Nat.zero_add] at this;exact this
    have hand:bits .and .u64 (x:Int) (IntKind.u64.wrap ((x:Int) - 1))=(y:Int):=by
     have hm:IntKind.u64.wrap ((x:Int) - 1)=((x - 1:Nat):Int):=by rw [z0k];omega
     rw [hm,z4E hxl (by omega),hya]
    have hyx:y<2 ^ 64:=Nat.lt_of_le_of_lt (by rw [<-hya];exact Nat.and_le_left) hxl
    have hlen:l.length<=1000:=by
     have h1:=congrArg List.length hl;have h2:=z5V X;rw [List.length_append,z0L X] at h1;omega
    have hPy:POP x=POP y+1:=by
     rw [<-z0L,<-z0L,hstep,List.length_cons]
    have R:Aside ((l ++ [t]) ++ z0w y=z0w X/\y<2 ^ 64/\gk=POP y+1/\wr.ownsRow w.heap.size 3 1 u3 l.length (z1g l)/\Below w.heap.size w wr/\l.length<=1000):=⟨by rw [List.append_assoc,List.singleton_append,<-hstep];exact hl,hyx,by rw [hg,hPy],hown,hbel,hlen⟩
    clear A hl hxl hg hown hs hb hbel hx0 e ht hy hya hstep hyx hlen hPy HX HT HP;go_wp2_with fail
    refine cl.mono ?_;rintro e w' ⟨rfl,rfl⟩;clear cl;go_wp2_with (at_builtin;refine zfZ _ rfl (.tmp 13) (.tmp 16) rfl w.heap.size u3 l.length l rfl (R.out.2.2.2.1.alloc _) wr.heap.size 1 t rfl (by rw [World.cell?_alloc_at _ _ _ _ rfl];rfl) R.out.2.2.2.2.2 (by have:=R.out.2.2.2.2.1.size;simp;omega) ?_;intro g cap w1 hown hgrow hg)
    obtain ⟨r1,r2,r3,r4,r5,r6⟩:=R.out;have R2:Aside ((l ++ [t]) ++ z0w y=z0w X/\y<2 ^ 64/\gk=POP y+1/\w1.ownsRow w.heap.size 3 1 (.slice (some ⟨g,0,none⟩) (l.length+1) cap) (l.length+1) (z1g (l ++ [t]))/\g<w1.heap.size/\Below w.heap.size w w1):=⟨r1,r2,r3,hown,hg,(r5.alloc r5.size _).grown hgrow (by have:=r5.size;simp;omega) (fun k e=>(r4.lt k e).1)⟩
    clear hown hgrow hg R r1 r2 r3 r4 r5 r6;go_wp2;go_roundg (gk - 1)
    case measure=>have:=R2.out.2.2.1;omega
    case rel=>
     obtain ⟨r1,r2,r3,r4,r5,r6⟩:=R2.out;have e:(l ++ [t]).length=l.length+1:=by simp
     exact ⟨y,⟨l ++ [t],r1,r2,by omega,by rw [e];exact r4,⟨g,cap,by rw [e],r5⟩,r6⟩,by first | rfl | (rw [hand])⟩
def SUMP (l:List Nat):Nat:=(l.map fun i=>2 ^ i).sum
theorem z8d:∀ k o X,∀ i∈PL k o X,o<=i/\i<o+k
 | 0,_,_,i,h=>by simp [PL] at h
 | k + 1,o,X,i,h=>by
   have ih:=z8d k (o+1) (X / 2) i;unfold PL at h;split at h
   ·rcases List.mem_cons.1 h with rfl | h
    ·omega
    ·have:=ih h
     omega
   ·have:=ih h
    omega
def z43 (X i:Nat):Nat:=(z0w X).getD i 0
theorem z5z {X i:Nat} (h:i<POP X):(z0w X)[i]?=some (z43 X i):=by
 rw [<-z0L] at h;unfold z43;rw [List.getD_eq_getElem?_getD,List.getElem?_eq_getElem h];rfl
theorem zev {X i:Nat} (h:i<POP X):z43 X i<=63:=by
 have:=z8d 64 0 X _ (List.mem_of_getElem? (z5z h));omega
def PART (X i:Nat):Nat:=SUMP ((z0w X).take i)
theorem zcG {w:World} {base g n cap:Nat} {X:Nat} (h:w.ownsRow base 3 1 (.slice (some ⟨g,0,none⟩) n cap) n (z1g (z0w X))) (i:Nat) (hi:i<POP X):w.cell? ⟨g,i,none⟩=some (.int .i64 (z43 X i:Nat)):=by
 have hlen:(z0w X).length=n:=by have:=h.1;simpa [z1g] using this
 rw [z0L] at hlen;rw [h.cellAt i (by omega)];unfold z1g;rw [List.getElem?_map,z5z hi];rfl
end Go.Proofs.YtnimaaflmdoaaaaGreatDoor
namespace Go.Proofs.YtnimaaflmdoaaaaGreatDoor
def UP (h n:Nat):List Nat:=PL (64 - h) h (n / 2 ^ h)
theorem zae {h n:Nat} (hh:h<64):UP h n=if n / 2 ^ h % 2=1 then h :: UP (h+1) n else UP (h+1) n:=by
 unfold UP;rw [show 64 - h=(64 - (h+1))+1 by omega,PL,Nat.div_div_eq_div_mul,<-Nat.pow_succ]
theorem zg1 (n:Nat):UP 0 n=z0w n:=by
 unfold UP z0w;simp
theorem zgV {h n:Nat} (hn:n<2 ^ h):UP h n=[]:=by
 unfold UP;rw [Nat.div_eq_of_lt hn,z6F]
def HS (h n:Nat):List Nat:=(UP h n).reverse
theorem z3a {h n:Nat} (hh:h<64) (hb:n / 2 ^ h % 2=1):HS h n=HS (h+1) n ++ [h]:=by
 unfold HS;rw [zae hh,if_pos hb,List.reverse_cons]
theorem z3b {h n:Nat} (hh:h<64) (hb:¬ n / 2 ^ h % 2=1):HS h n=HS (h+1) n:=by
 unfold HS;rw [zae hh,if_neg hb]
theorem zcH {h n:Nat} (hn:n<2 ^ h):HS h n=[]:=by
 unfold HS;rw [zgV hn];rfl
theorem zg2 (n:Nat):HS 0 n=(z0w n).reverse:=by
 unfold HS;rw [zg1]
theorem z2U {n:Nat} (hn:n<2 ^ 64):∀ h,h<=64->(HS h n).length=PC (n / 2 ^ h):=by
 have key:∀ d h,h+d=64->(HS h n).length=PC (n / 2 ^ h):=by
  intro d;induction d with
  | zero=>
    intro h e;obtain rfl:h=64:=by omega
    rw [zcH hn,Nat.div_eq_of_lt hn,z1y];rfl
  | succ d ih=>
    intro h e;have ih:=ih (h+1) (by omega);rw [z0V,Nat.div_div_eq_div_mul,<-Nat.pow_succ,<-ih];by_cases hb:n / 2 ^ h % 2=1
    ·rw [z3a (by omega) hb,List.length_append,List.length_singleton]
     omega
    ·rw [z3b (by omega) hb]
     omega
 intro h hh;exact key (64 - h) h (by omega)
theorem zew {n h:Nat}:h<=64->∃ t,HS 0 n=HS h n ++ t:=by
 induction h with
 | zero=>exact fun _=>⟨[],by simp⟩
 | succ h ih=>
   intro hh;obtain ⟨t,ht⟩:=ih (by omega);by_cases hb:n / 2 ^ h % 2=1
   ·exact ⟨h :: t,by rw [ht,z3a (by omega) hb];simp⟩
   ·exact ⟨t,by rw [ht,z3b (by omega) hb]⟩
theorem z4H {n:Nat}:∀ h x,h<=64->x∈HS h n->h<=x/\x<64/\n / 2 ^ x % 2=1:=by
 have key:∀ d h,h+d=64->∀ x,x∈HS h n->h<=x/\x<64/\n / 2 ^ x % 2=1:=by
  intro d;induction d with
  | zero=>
    intro h e x hx;obtain rfl:h=64:=by omega
    simp [HS,UP,PL] at hx
  | succ d ih=>
    intro h e x hx;by_cases hb:n / 2 ^ h % 2=1
    ·rw [z3a (by omega) hb,List.mem_append,List.mem_singleton] at hx
     rcases hx with hx | rfl
     ·have:=ih (h+1) (by omega) x hx
      exact ⟨by omega,this.2⟩
     ·exact ⟨Nat.le_refl _,by omega,hb⟩
    ·rw [z3b (by omega) hb] at hx
     have:=ih (h+1) (by omega) x hx;exact ⟨by omega,this.2⟩
 intro h x hh;exact key (64 - h) h (by omega) x
def PKP (n h:Nat):Nat:=PLC h (2*(n / 2 ^ (h+1)))
def z1G (n:Nat):List Nat:=(HS 0 n).map (PKP n)
theorem z3c {n:Nat} (hn:n<2 ^ 64):(z1G n).length=PC n:=by
 unfold z1G;rw [List.length_map,z2U hn 0 (by omega)];simp
theorem z0B (n h:Nat):n / 2 ^ (h+1)=n / 2 ^ h / 2:=by rw [Nat.div_div_eq_div_mul,<-Nat.pow_succ]
theorem z44 (m h:Nat):z05 ((2*m+1)*2 ^ h)=z05 (2*m*2 ^ h)+TREE h:=by
 have h1:=z0T ((2*m+1)*2 ^ h);have h2:=z0T (2*m*2 ^ h);rw [z2D,z3N,Nat.add_mul,Nat.one_mul] at h1;rw [z2D,z54] at h2;have h3:=z22 h;rw [Nat.pow_succ] at h3;rw [Nat.add_mul,Nat.one_mul];unfold TREE;rw [Nat.pow_succ];omega
theorem z8e {n h:Nat} (hb:n / 2 ^ h % 2=1):n / 2 ^ h=2*(n / 2 ^ (h+1))+1:=by
 rw [z0B];omega
theorem zex {n h:Nat} (hb:¬ n / 2 ^ h % 2=1):n / 2 ^ h=2*(n / 2 ^ (h+1)):=by
 rw [z0B];omega
theorem z1p (m h:Nat):2*m*2 ^ h=m*2 ^ (h+1):=by
 rw [Nat.pow_succ,Nat.mul_comm 2 m,Nat.mul_assoc,Nat.mul_comm 2]
def ST (l:List Nat):Nat × List Nat:=l.foldl (fun s h=>((s.1+TREE h) % 2 ^ 64,s.2 ++ [((s.1+TREE h) % 2 ^ 64+(2 ^ 64 - 1)) % 2 ^ 64])) (0,[])
theorem z6G (l:List Nat) (h:Nat):ST (l ++ [h])=(((ST l).1+TREE h) % 2 ^ 64,(ST l).2 ++ [(((ST l).1+TREE h) % 2 ^ 64+(2 ^ 64 - 1)) % 2 ^ 64]):=by
 unfold ST;rw [List.foldl_append];rfl
theorem zcI {n:Nat} (hn:n<=4611686018427387904):z05 n<=9223372036854775807:=by
 rw [<-zb2];exact z5y hn
theorem zhu {n:Nat} (hn:n<=4611686018427387904):∀ h,h<=64->ST (HS h n)=(z05 (n / 2 ^ h*2 ^ h),(HS h n).map (PKP n)):=by
 have key:∀ d h,h+d=64->ST (HS h n)=(z05 (n / 2 ^ h*2 ^ h),(HS h n).map (PKP n)):=by
  intro d;induction d with
  | zero=>
    intro h e;obtain rfl:h=64:=by omega
    rw [zcH (by omega),Nat.div_eq_of_lt (by omega),Nat.zero_mul,z42];rfl
  | succ d ih=>
    intro h e;have ih:=ih (h+1) (by omega);by_cases hb:n / 2 ^ h % 2=1
    ·have e1:=z8e hb
     have h2:z05 (n / 2 ^ h*2 ^ h)=z05 (n / 2 ^ (h+1)*2 ^ (h+1))+TREE h:=by
      rw [e1,z44,z1p]
     have h3:z05 (n / 2 ^ h*2 ^ h)<=9223372036854775807:=zcI (Nat.le_trans (Nat.div_mul_le_self _ _) hn);have h4:=z22 h
     have hs:(z05 (n / 2 ^ (h+1)*2 ^ (h+1))+TREE h) % 2 ^ 64=z05 (n / 2 ^ h*2 ^ h):=by
      rw [<-h2];omega
     have hp:(z05 (n / 2 ^ h*2 ^ h)+(2 ^ 64 - 1)) % 2 ^ 64=PKP n h:=by
      unfold PKP PLC;rw [z1p];unfold TREE at h2;omega
     rw [z3a (by omega) hb,z6G,ih];dsimp only;rw [hs,hp,List.map_append];rfl
    ·rw [z3b (by omega) hb,ih,zex hb,z1p]
 intro h hh;exact key (64 - h) h (by omega)
theorem zgW {n:Nat} (hn:n<=4611686018427387904):ST (HS 0 n)=(z05 n,z1G n):=by
 have:=zhu hn 0 (by omega);unfold z1G;simpa using this
theorem z5g {a b:Nat} (h:a ^^^ b=0):a=b:=by
 have:a ^^^ (a ^^^ b)=a ^^^ 0:=by rw [h]
 rw [<-Nat.xor_assoc,Nat.xor_self,Nat.zero_xor,Nat.xor_zero] at this;exact this.symm
def RISE (i n:Nat):Nat:=LEN (i ^^^ n) - 1
theorem z0U {i n:Nat} (hi:i<n) (hn:n<=4611686018427387904):1<=LEN (i ^^^ n)/\RISE i n<=62/\n / 2 ^ RISE i n % 2=1/\i / 2 ^ (RISE i n+1)=n / 2 ^ (RISE i n+1)/\i / 2 ^ RISE i n=2*(n / 2 ^ (RISE i n+1)):=by
 have hX:i ^^^ n<2 ^ 63:=Nat.xor_lt_two_pow (by omega) (by omega)
 have h0:i ^^^ n≠0:=by
  intro h;have:i=n:=z5g h;omega
 obtain ⟨h1,h2,h3⟩:=z89 (i ^^^ n) (by omega) h0;have hR:LEN (i ^^^ n)=RISE i n+1:=by unfold RISE;omega
 rw [hR] at h3;rw [show LEN (i ^^^ n) - 1=RISE i n from rfl] at h2;generalize RISE i n=H at *
 have hH:H<=62:=by
  rcases Nat.lt_or_ge 62 H with h | h
  ·have:2 ^ 63<=2 ^ H:=Nat.pow_le_pow_right (by decide) h
   omega
  ·exact h
 have e1:i / 2 ^ (H+1)=n / 2 ^ (H+1):=by
  have:(i ^^^ n) / 2 ^ (H+1)=0:=Nat.div_eq_of_lt h3;rw [<-Nat.shiftRight_eq_div_pow,Nat.shiftRight_xor_distrib,Nat.shiftRight_eq_div_pow,Nat.shiftRight_eq_div_pow] at this;exact z5g this
 have e2:i / 2 ^ H ^^^ n / 2 ^ H=1:=by
  have:(i ^^^ n) / 2 ^ H=1:=by
   rw [Nat.pow_succ] at h3;apply Nat.div_eq_of_lt_le
   ·omega
   ·omega
  rw [<-Nat.shiftRight_eq_div_pow,Nat.shiftRight_xor_distrib,Nat.shiftRight_eq_div_pow,Nat.shiftRight_eq_div_pow] at this;exact this
 have e3:i / 2 ^ H<=n / 2 ^ H:=Nat.div_le_div_right (Nat.le_of_lt hi)
 have e4:i / 2 ^ H≠n / 2 ^ H:=by
  intro h;rw [h,Nat.xor_self] at e2;omega
 rw [z0B,z0B] at e1;refine ⟨by omega,hH,?_,?_,?_⟩
 ·omega
 ·rw [z0B,z0B]
  exact e1
 ·rw [z0B]
  omega
def KTH (i n:Nat):Nat:=PC (n / 2 ^ (RISE i n+1))
theorem zcJ {i n:Nat} (hi:i<n) (hn:n<=4611686018427387904):(HS 0 n)[KTH i n]?=some (RISE i n):=by
 obtain ⟨_,h1,h2,_,_⟩:=z0U hi hn;obtain ⟨t,ht⟩:=zew (n:=n) (h:=RISE i n) (by omega);have hl:=z2U (n:=n) (by omega) (RISE i n+1) (by omega);rw [ht,z3a (by omega) h2,List.append_assoc];unfold KTH;rw [<-hl,List.getElem?_append_right (Nat.le_refl _)];simp
theorem z8f {i n:Nat} (hi:i<n) (hn:n<=4611686018427387904):KTH i n<PC n:=by
 have h:=zcJ hi hn;have hl:=z2U (n:=n) (by omega) 0 (by omega);rw [Nat.pow_zero,Nat.div_one] at hl;rw [<-hl];exact (List.getElem?_eq_some_iff.1 h).1
def SIB (k:Nat):Nat:=if k % 2=1 then k - 1 else k+1
def WAY (i H:Nat):List Nat:=(List.range H).map fun h=>PLC h (SIB (i / 2 ^ h))
theorem zey (i H:Nat):WAY i (H+1)=WAY i H ++ [PLC H (SIB (i / 2 ^ H))]:=by simp [WAY,List.range_succ]
theorem zbc (i H:Nat):(WAY i H).length=H:=by simp [WAY]
theorem Node.up {h k:Nat} (a:Node h k) (hh:h<62):Node (h+1) (k / 2):=by
 refine ⟨hh,?_⟩;have:=a.2;rw [show 62 - h=(62 - (h+1))+1 by omega,Nat.pow_succ] at this;omega
theorem Node.sib {h k:Nat} (a:Node h k) (hh:h<62):Node h (SIB k):=by
 refine ⟨a.1,?_⟩;have h1:=a.2;rw [show 62 - h=(62 - (h+1))+1 by omega,Nat.pow_succ] at h1 ⊢;unfold SIB;split <;> omega
theorem Node.leaf {i:Nat} (hi:i<4611686018427387904):Node 0 i:=⟨by omega,by simpa using hi⟩
theorem Node.over {i:Nat} (hi:i<4611686018427387904):∀ h,h<=62->Node h (i / 2 ^ h):=by
 intro h;induction h with
 | zero=>
   intro _;simpa using Node.leaf hi
 | succ h ih=>
   intro hh;have:=(ih (by omega)).up (by omega);rw [z0B];exact this
theorem Node.peak {n h:Nat} (hn:n<=4611686018427387904) (hb:n / 2 ^ h % 2=1):Node h (2*(n / 2 ^ (h+1))):=by
 have h62:h<=62:=by
  rcases Nat.lt_or_ge 62 h with h1 | h1
  ·have:2 ^ 63<=2 ^ h:=Nat.pow_le_pow_right (by decide) h1
   rw [Nat.div_eq_of_lt (by omega)] at hb;omega
  ·exact h1
 refine ⟨h62,?_⟩
 have h1:n / 2 ^ h<=2 ^ (62 - h):=by
  have:n / 2 ^ h<=2 ^ 62 / 2 ^ h:=Nat.div_le_div_right (by simpa using hn);rw [Nat.pow_div h62 (by decide)] at this;exact this
 rw [z8e hb] at h1;omega
end Go.Proofs.YtnimaaflmdoaaaaGreatDoor
