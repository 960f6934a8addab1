/- ProofMakes: part 18. -/
import Derived.Test.YthmnailmbgondaaGreatDoorProofMakesP17
namespace Go.Proofs.YthmnailmbgondaaGreatDoor
open Go.RowKit
set_option maxRecDepth 100000 in
theorem zbv (x v:Int) (w:World) (h0:(¬ 4294967296<=x)) (h1:(¬ 65536<=x)) (h2:(¬ 256<=x)) (hx:0<=x) (hx':x<256)
  (hv:Aside (∀ h:(x).toNat<(⟨#[0,1,2,2,3,3,3,3,4,4,4,4,4,4,4,4,5,5,5,5,5,5,5,5,5,5,5,5,5,5,5,5,6,6,6,6,6,6,6,6,6,6,6,6,6,6,6,6,6,6,6,6,6,6,6,6,6,6,6,6,6,6,6,6,7,7,7,7,7,7,7,7,7,7,7,7,7,7,7,7,7,7,7,7,7,7,7,7,7,7,7,7,7,7,7,7,7,7,7,7,7,7,7,7,7,7,7,7,7,7,7,7,7,7,7,7,7,7,7,7,7,7,7,7,7,7,7,7,8,8,8,8,8,8,8,8,8,8,8,8,8,8,8,8,8,8,8,8,8,8,8,8,8,8,8,8,8,8,8,8,8,8,8,8,8,8,8,8,8,8,8,8,8,8,8,8,8,8,8,8,8,8,8,8,8,8,8,8,8,8,8,8,8,8,8,8,8,8,8,8,8,8,8,8,8,8,8,8,8,8,8,8,8,8,8,8,8,8,8,8,8,8,8,8,8,8,8,8,8,8,8,8,8,8,8,8,8,8,8,8,8,8,8,8,8,8,8,8,8,8,8,8,8,8,8,8]⟩:ByteArray).size,wrap64 (wrap64 ((⟨#[0,1,2,2,3,3,3,3,4,4,4,4,4,4,4,4,5,5,5,5,5,5,5,5,5,5,5,5,5,5,5,5,6,6,6,6,6,6,6,6,6,6,6,6,6,6,6,6,6,6,6,6,6,6,6,6,6,6,6,6,6,6,6,6,7,7,7,7,7,7,7,7,7,7,7,7,7,7,7,7,7,7,7,7,7,7,7,7,7,7,7,7,7,7,7,7,7,7,7,7,7,7,7,7,7,7,7,7,7,7,7,7,7,7,7,7,7,7,7,7,7,7,7,7,7,7,7,7,8,8,8,8,8,8,8,8,8,8,8,8,8,8,8,8,8,8,8,8,8,8,8,8,8,8,8,8,8,8,8,8,8,8,8,8,8,8,8,8,8,8,8,8,8,8,8,8,8,8,8,8,8,8,8,8,8,8,8,8,8,8,8,8,8,8,8,8,8,8,8,8,8,8,8,8,8,8,8,8,8,8,8,8,8,8,8,8,8,8,8,8,8,8,8,8,8,8,8,8,8,8,8,8,8,8,8,8,8,8,8,8,8,8,8,8,8,8,8,8,8,8,8,8,8,8,8,8]⟩:ByteArray)[(x).toNat]'h).toNat)=v)):Calls Tryz.prog 123 #[.int .u64 x] w fun e w'=>e=.returned (.int .i64 v)/\w=w':=by
 go_enter Tryz.func123,Tryz.ntmps123;go_wp2;go_ret;exact ⟨congrArg (fun z=>Ending.returned (Value.int .i64 z)) (hv.out _),rfl⟩
set_option maxRecDepth 100000 in
theorem zbw (x v:Int) (w:World) (h0:(¬ 4294967296<=x)) (h1:(¬ 65536<=x)) (h2:(256<=x)) (hx:0<=x / 256) (hx':x / 256<256)
  (hv:Aside (∀ h:(x / 256).toNat<(⟨#[0,1,2,2,3,3,3,3,4,4,4,4,4,4,4,4,5,5,5,5,5,5,5,5,5,5,5,5,5,5,5,5,6,6,6,6,6,6,6,6,6,6,6,6,6,6,6,6,6,6,6,6,6,6,6,6,6,6,6,6,6,6,6,6,7,7,7,7,7,7,7,7,7,7,7,7,7,7,7,7,7,7,7,7,7,7,7,7,7,7,7,7,7,7,7,7,7,7,7,7,7,7,7,7,7,7,7,7,7,7,7,7,7,7,7,7,7,7,7,7,7,7,7,7,7,7,7,7,8,8,8,8,8,8,8,8,8,8,8,8,8,8,8,8,8,8,8,8,8,8,8,8,8,8,8,8,8,8,8,8,8,8,8,8,8,8,8,8,8,8,8,8,8,8,8,8,8,8,8,8,8,8,8,8,8,8,8,8,8,8,8,8,8,8,8,8,8,8,8,8,8,8,8,8,8,8,8,8,8,8,8,8,8,8,8,8,8,8,8,8,8,8,8,8,8,8,8,8,8,8,8,8,8,8,8,8,8,8,8,8,8,8,8,8,8,8,8,8,8,8,8,8,8,8,8,8]⟩:ByteArray).size,wrap64 (8+wrap64 ((⟨#[0,1,2,2,3,3,3,3,4,4,4,4,4,4,4,4,5,5,5,5,5,5,5,5,5,5,5,5,5,5,5,5,6,6,6,6,6,6,6,6,6,6,6,6,6,6,6,6,6,6,6,6,6,6,6,6,6,6,6,6,6,6,6,6,7,7,7,7,7,7,7,7,7,7,7,7,7,7,7,7,7,7,7,7,7,7,7,7,7,7,7,7,7,7,7,7,7,7,7,7,7,7,7,7,7,7,7,7,7,7,7,7,7,7,7,7,7,7,7,7,7,7,7,7,7,7,7,7,8,8,8,8,8,8,8,8,8,8,8,8,8,8,8,8,8,8,8,8,8,8,8,8,8,8,8,8,8,8,8,8,8,8,8,8,8,8,8,8,8,8,8,8,8,8,8,8,8,8,8,8,8,8,8,8,8,8,8,8,8,8,8,8,8,8,8,8,8,8,8,8,8,8,8,8,8,8,8,8,8,8,8,8,8,8,8,8,8,8,8,8,8,8,8,8,8,8,8,8,8,8,8,8,8,8,8,8,8,8,8,8,8,8,8,8,8,8,8,8,8,8,8,8,8,8,8,8]⟩:ByteArray)[(x / 256).toNat]'h).toNat)=v)):Calls Tryz.prog 123 #[.int .u64 x] w fun e w'=>e=.returned (.int .i64 v)/\w=w':=by
 go_enter Tryz.func123,Tryz.ntmps123;go_wp2;go_ret;exact ⟨congrArg (fun z=>Ending.returned (Value.int .i64 z)) (hv.out _),rfl⟩
set_option maxRecDepth 100000 in
theorem zbx (x v:Int) (w:World) (h0:(¬ 4294967296<=x)) (h1:(65536<=x)) (h2:(¬ 256<=x / 65536)) (hx:0<=x / 65536) (hx':x / 65536<256)
  (hv:Aside (∀ h:(x / 65536).toNat<(⟨#[0,1,2,2,3,3,3,3,4,4,4,4,4,4,4,4,5,5,5,5,5,5,5,5,5,5,5,5,5,5,5,5,6,6,6,6,6,6,6,6,6,6,6,6,6,6,6,6,6,6,6,6,6,6,6,6,6,6,6,6,6,6,6,6,7,7,7,7,7,7,7,7,7,7,7,7,7,7,7,7,7,7,7,7,7,7,7,7,7,7,7,7,7,7,7,7,7,7,7,7,7,7,7,7,7,7,7,7,7,7,7,7,7,7,7,7,7,7,7,7,7,7,7,7,7,7,7,7,8,8,8,8,8,8,8,8,8,8,8,8,8,8,8,8,8,8,8,8,8,8,8,8,8,8,8,8,8,8,8,8,8,8,8,8,8,8,8,8,8,8,8,8,8,8,8,8,8,8,8,8,8,8,8,8,8,8,8,8,8,8,8,8,8,8,8,8,8,8,8,8,8,8,8,8,8,8,8,8,8,8,8,8,8,8,8,8,8,8,8,8,8,8,8,8,8,8,8,8,8,8,8,8,8,8,8,8,8,8,8,8,8,8,8,8,8,8,8,8,8,8,8,8,8,8,8,8]⟩:ByteArray).size,wrap64 (16+wrap64 ((⟨#[0,1,2,2,3,3,3,3,4,4,4,4,4,4,4,4,5,5,5,5,5,5,5,5,5,5,5,5,5,5,5,5,6,6,6,6,6,6,6,6,6,6,6,6,6,6,6,6,6,6,6,6,6,6,6,6,6,6,6,6,6,6,6,6,7,7,7,7,7,7,7,7,7,7,7,7,7,7,7,7,7,7,7,7,7,7,7,7,7,7,7,7,7,7,7,7,7,7,7,7,7,7,7,7,7,7,7,7,7,7,7,7,7,7,7,7,7,7,7,7,7,7,7,7,7,7,7,7,8,8,8,8,8,8,8,8,8,8,8,8,8,8,8,8,8,8,8,8,8,8,8,8,8,8,8,8,8,8,8,8,8,8,8,8,8,8,8,8,8,8,8,8,8,8,8,8,8,8,8,8,8,8,8,8,8,8,8,8,8,8,8,8,8,8,8,8,8,8,8,8,8,8,8,8,8,8,8,8,8,8,8,8,8,8,8,8,8,8,8,8,8,8,8,8,8,8,8,8,8,8,8,8,8,8,8,8,8,8,8,8,8,8,8,8,8,8,8,8,8,8,8,8,8,8,8,8]⟩:ByteArray)[(x / 65536).toNat]'h).toNat)=v)):Calls Tryz.prog 123 #[.int .u64 x] w fun e w'=>e=.returned (.int .i64 v)/\w=w':=by
 go_enter Tryz.func123,Tryz.ntmps123;go_wp2;go_ret;exact ⟨congrArg (fun z=>Ending.returned (Value.int .i64 z)) (hv.out _),rfl⟩
set_option maxRecDepth 100000 in
theorem zby (x v:Int) (w:World) (h0:(¬ 4294967296<=x)) (h1:(65536<=x)) (h2:(256<=x / 65536)) (hx:0<=x / 65536 / 256) (hx':x / 65536 / 256<256)
  (hv:Aside (∀ h:(x / 65536 / 256).toNat<(⟨#[0,1,2,2,3,3,3,3,4,4,4,4,4,4,4,4,5,5,5,5,5,5,5,5,5,5,5,5,5,5,5,5,6,6,6,6,6,6,6,6,6,6,6,6,6,6,6,6,6,6,6,6,6,6,6,6,6,6,6,6,6,6,6,6,7,7,7,7,7,7,7,7,7,7,7,7,7,7,7,7,7,7,7,7,7,7,7,7,7,7,7,7,7,7,7,7,7,7,7,7,7,7,7,7,7,7,7,7,7,7,7,7,7,7,7,7,7,7,7,7,7,7,7,7,7,7,7,7,8,8,8,8,8,8,8,8,8,8,8,8,8,8,8,8,8,8,8,8,8,8,8,8,8,8,8,8,8,8,8,8,8,8,8,8,8,8,8,8,8,8,8,8,8,8,8,8,8,8,8,8,8,8,8,8,8,8,8,8,8,8,8,8,8,8,8,8,8,8,8,8,8,8,8,8,8,8,8,8,8,8,8,8,8,8,8,8,8,8,8,8,8,8,8,8,8,8,8,8,8,8,8,8,8,8,8,8,8,8,8,8,8,8,8,8,8,8,8,8,8,8,8,8,8,8,8,8]⟩:ByteArray).size,wrap64 (24+wrap64 ((⟨#[0,1,2,2,3,3,3,3,4,4,4,4,4,4,4,4,5,5,5,5,5,5,5,5,5,5,5,5,5,5,5,5,6,6,6,6,6,6,6,6,6,6,6,6,6,6,6,6,6,6,6,6,6,6,6,6,6,6,6,6,6,6,6,6,7,7,7,7,7,7,7,7,7,7,7,7,7,7,7,7,7,7,7,7,7,7,7,7,7,7,7,7,7,7,7,7,7,7,7,7,7,7,7,7,7,7,7,7,7,7,7,7,7,7,7,7,7,7,7,7,7,7,7,7,7,7,7,7,8,8,8,8,8,8,8,8,8,8,8,8,8,8,8,8,8,8,8,8,8,8,8,8,8,8,8,8,8,8,8,8,8,8,8,8,8,8,8,8,8,8,8,8,8,8,8,8,8,8,8,8,8,8,8,8,8,8,8,8,8,8,8,8,8,8,8,8,8,8,8,8,8,8,8,8,8,8,8,8,8,8,8,8,8,8,8,8,8,8,8,8,8,8,8,8,8,8,8,8,8,8,8,8,8,8,8,8,8,8,8,8,8,8,8,8,8,8,8,8,8,8,8,8,8,8,8,8]⟩:ByteArray)[(x / 65536 / 256).toNat]'h).toNat)=v)):Calls Tryz.prog 123 #[.int .u64 x] w fun e w'=>e=.returned (.int .i64 v)/\w=w':=by
 go_enter Tryz.func123,Tryz.ntmps123;go_wp2;go_ret;exact ⟨congrArg (fun z=>Ending.returned (Value.int .i64 z)) (hv.out _),rfl⟩
set_option maxRecDepth 100000 in
theorem zbz (x v:Int) (w:World) (h0:(4294967296<=x)) (h1:(¬ 65536<=x / 4294967296)) (h2:(¬ 256<=x / 4294967296)) (hx:0<=x / 4294967296) (hx':x / 4294967296<256)
  (hv:Aside (∀ h:(x / 4294967296).toNat<(⟨#[0,1,2,2,3,3,3,3,4,4,4,4,4,4,4,4,5,5,5,5,5,5,5,5,5,5,5,5,5,5,5,5,6,6,6,6,6,6,6,6,6,6,6,6,6,6,6,6,6,6,6,6,6,6,6,6,6,6,6,6,6,6,6,6,7,7,7,7,7,7,7,7,7,7,7,7,7,7,7,7,7,7,7,7,7,7,7,7,7,7,7,7,7,7,7,7,7,7,7,7,7,7,7,7,7,7,7,7,7,7,7,7,7,7,7,7,7,7,7,7,7,7,7,7,7,7,7,7,8,8,8,8,8,8,8,8,8,8,8,8,8,8,8,8,8,8,8,8,8,8,8,8,8,8,8,8,8,8,8,8,8,8,8,8,8,8,8,8,8,8,8,8,8,8,8,8,8,8,8,8,8,8,8,8,8,8,8,8,8,8,8,8,8,8,8,8,8,8,8,8,8,8,8,8,8,8,8,8,8,8,8,8,8,8,8,8,8,8,8,8,8,8,8,8,8,8,8,8,8,8,8,8,8,8,8,8,8,8,8,8,8,8,8,8,8,8,8,8,8,8,8,8,8,8,8,8]⟩:ByteArray).size,wrap64 (32+wrap64 ((⟨#[0,1,2,2,3,3,3,3,4,4,4,4,4,4,4,4,5,5,5,5,5,5,5,5,5,5,5,5,5,5,5,5,6,6,6,6,6,6,6,6,6,6,6,6,6,6,6,6,6,6,6,6,6,6,6,6,6,6,6,6,6,6,6,6,7,7,7,7,7,7,7,7,7,7,7,7,7,7,7,7,7,7,7,7,7,7,7,7,7,7,7,7,7,7,7,7,7,7,7,7,7,7,7,7,7,7,7,7,7,7,7,7,7,7,7,7,7,7,7,7,7,7,7,7,7,7,7,7,8,8,8,8,8,8,8,8,8,8,8,8,8,8,8,8,8,8,8,8,8,8,8,8,8,8,8,8,8,8,8,8,8,8,8,8,8,8,8,8,8,8,8,8,8,8,8,8,8,8,8,8,8,8,8,8,8,8,8,8,8,8,8,8,8,8,8,8,8,8,8,8,8,8,8,8,8,8,8,8,8,8,8,8,8,8,8,8,8,8,8,8,8,8,8,8,8,8,8,8,8,8,8,8,8,8,8,8,8,8,8,8,8,8,8,8,8,8,8,8,8,8,8,8,8,8,8,8]⟩:ByteArray)[(x / 4294967296).toNat]'h).toNat)=v)):Calls Tryz.prog 123 #[.int .u64 x] w fun e w'=>e=.returned (.int .i64 v)/\w=w':=by
 go_enter Tryz.func123,Tryz.ntmps123;go_wp2;go_ret;exact ⟨congrArg (fun z=>Ending.returned (Value.int .i64 z)) (hv.out _),rfl⟩
set_option maxRecDepth 100000 in
theorem zbA (x v:Int) (w:World) (h0:(4294967296<=x)) (h1:(¬ 65536<=x / 4294967296)) (h2:(256<=x / 4294967296)) (hx:0<=x / 4294967296 / 256) (hx':x / 4294967296 / 256<256)
  (hv:Aside (∀ h:(x / 4294967296 / 256).toNat<(⟨#[0,1,2,2,3,3,3,3,4,4,4,4,4,4,4,4,5,5,5,5,5,5,5,5,5,5,5,5,5,5,5,5,6,6,6,6,6,6,6,6,6,6,6,6,6,6,6,6,6,6,6,6,6,6,6,6,6,6,6,6,6,6,6,6,7,7,7,7,7,7,7,7,7,7,7,7,7,7,7,7,7,7,7,7,7,7,7,7,7,7,7,7,7,7,7,7,7,7,7,7,7,7,7,7,7,7,7,7,7,7,7,7,7,7,7,7,7,7,7,7,7,7,7,7,7,7,7,7,8,8,8,8,8,8,8,8,8,8,8,8,8,8,8,8,8,8,8,8,8,8,8,8,8,8,8,8,8,8,8,8,8,8,8,8,8,8,8,8,8,8,8,8,8,8,8,8,8,8,8,8,8,8,8,8,8,8,8,8,8,8,8,8,8,8,8,8,8,8,8,8,8,8,8,8,8,8,8,8,8,8,8,8,8,8,8,8,8,8,8,8,8,8,8,8,8,8,8,8,8,8,8,8,8,8,8,8,8,8,8,8,8,8,8,8,8,8,8,8,8,8,8,8,8,8,8,8]⟩:ByteArray).size,wrap64 (40+wrap64 ((⟨#[0,1,2,2,3,3,3,3,4,4,4,4,4,4,4,4,5,5,5,5,5,5,5,5,5,5,5,5,5,5,5,5,6,6,6,6,6,6,6,6,6,6,6,6,6,6,6,6,6,6,6,6,6,6,6,6,6,6,6,6,6,6,6,6,7,7,7,7,7,7,7,7,7,7,7,7,7,7,7,7,7,7,7,7,7,7,7,7,7,7,7,7,7,7,7,7,7,7,7,7,7,7,7,7,7,7,7,7,7,7,7,7,7,7,7,7,7,7,7,7,7,7,7,7,7,7,7,7,8,8,8,8,8,8,8,8,8,8,8,8,8,8,8,8,8,8,8,8,8,8,8,8,8,8,8,8,8,8,8,8,8,8,8,8,8,8,8,8,8,8,8,8,8,8,8,8,8,8,8,8,8,8,8,8,8,8,8,8,8,8,8,8,8,8,8,8,8,8,8,8,8,8,8,8,8,8,8,8,8,8,8,8,8,8,8,8,8,8,8,8,8,8,8,8,8,8,8,8,8,8,8,8,8,8,8,8,8,8,8,8,8,8,8,8,8,8,8,8,8,8,8,8,8,8,8,8]⟩:ByteArray)[(x / 4294967296 / 256).toNat]'h).toNat)=v)):Calls Tryz.prog 123 #[.int .u64 x] w fun e w'=>e=.returned (.int .i64 v)/\w=w':=by
 go_enter Tryz.func123,Tryz.ntmps123;go_wp2;go_ret;exact ⟨congrArg (fun z=>Ending.returned (Value.int .i64 z)) (hv.out _),rfl⟩
set_option maxRecDepth 100000 in
theorem zbB (x v:Int) (w:World) (h0:(4294967296<=x)) (h1:(65536<=x / 4294967296)) (h2:(¬ 256<=x / 4294967296 / 65536)) (hx:0<=x / 4294967296 / 65536) (hx':x / 4294967296 / 65536<256)
  (hv:Aside (∀ h:(x / 4294967296 / 65536).toNat<(⟨#[0,1,2,2,3,3,3,3,4,4,4,4,4,4,4,4,5,5,5,5,5,5,5,5,5,5,5,5,5,5,5,5,6,6,6,6,6,6,6,6,6,6,6,6,6,6,6,6,6,6,6,6,6,6,6,6,6,6,6,6,6,6,6,6,7,7,7,7,7,7,7,7,7,7,7,7,7,7,7,7,7,7,7,7,7,7,7,7,7,7,7,7,7,7,7,7,7,7,7,7,7,7,7,7,7,7,7,7,7,7,7,7,7,7,7,7,7,7,7,7,7,7,7,7,7,7,7,7,8,8,8,8,8,8,8,8,8,8,8,8,8,8,8,8,8,8,8,8,8,8,8,8,8,8,8,8,8,8,8,8,8,8,8,8,8,8,8,8,8,8,8,8,8,8,8,8,8,8,8,8,8,8,8,8,8,8,8,8,8,8,8,8,8,8,8,8,8,8,8,8,8,8,8,8,8,8,8,8,8,8,8,8,8,8,8,8,8,8,8,8,8,8,8,8,8,8,8,8,8,8,8,8,8,8,8,8,8,8,8,8,8,8,8,8,8,8,8,8,8,8,8,8,8,8,8,8]⟩:ByteArray).size,wrap64 (48+wrap64 ((⟨#[0,1,2,2,3,3,3,3,4,4,4,4,4,4,4,4,5,5,5,5,5,5,5,5,5,5,5,5,5,5,5,5,6,6,6,6,6,6,6,6,6,6,6,6,6,6,6,6,6,6,6,6,6,6,6,6,6,6,6,6,6,6,6,6,7,7,7,7,7,7,7,7,7,7,7,7,7,7,7,7,7,7,7,7,7,7,7,7,7,7,7,7,7,7,7,7,7,7,7,7,7,7,7,7,7,7,7,7,7,7,7,7,7,7,7,7,7,7,7,7,7,7,7,7,7,7,7,7,8,8,8,8,8,8,8,8,8,8,8,8,8,8,8,8,8,8,8,8,8,8,8,8,8,8,8,8,8,8,8,8,8,8,8,8,8,8,8,8,8,8,8,8,8,8,8,8,8,8,8,8,8,8,8,8,8,8,8,8,8,8,8,8,8,8,8,8,8,8,8,8,8,8,8,8,8,8,8,8,8,8,8,8,8,8,8,8,8,8,8,8,8,8,8,8,8,8,8,8,8,8,8,8,8,8,8,8,8,8,8,8,8,8,8,8,8,8,8,8,8,8,8,8,8,8,8,8]⟩:ByteArray)[(x / 4294967296 / 65536).toNat]'h).toNat)=v)):Calls Tryz.prog 123 #[.int .u64 x] w fun e w'=>e=.returned (.int .i64 v)/\w=w':=by
 go_enter Tryz.func123,Tryz.ntmps123;go_wp2;go_ret;exact ⟨congrArg (fun z=>Ending.returned (Value.int .i64 z)) (hv.out _),rfl⟩
set_option maxRecDepth 100000 in
theorem zbC (x v:Int) (w:World) (h0:(4294967296<=x)) (h1:(65536<=x / 4294967296)) (h2:(256<=x / 4294967296 / 65536)) (hx:0<=x / 4294967296 / 65536 / 256) (hx':x / 4294967296 / 65536 / 256<256)
  (hv:Aside (∀ h:(x / 4294967296 / 65536 / 256).toNat<(⟨#[0,1,2,2,3,3,3,3,4,4,4,4,4,4,4,4,5,5,5,5,5,5,5,5,5,5,5,5,5,5,5,5,6,6,6,6,6,6,6,6,6,6,6,6,6,6,6,6,6,6,6,6,6,6,6,6,6,6,6,6,6,6,6,6,7,7,7,7,7,7,7,7,7,7,7,7,7,7,7,7,7,7,7,7,7,7,7,7,7,7,7,7,7,7,7,7,7,7,7,7,7,7,7,7,7,7,7,7,7,7,7,7,7,7,7,7,7,7,7,7,7,7,7,7,7,7,7,7,8,8,8,8,8,8,8,8,8,8,8,8,8,8,8,8,8,8,8,8,8,8,8,8,8,8,8,8,8,8,8,8,8,8,8,8,8,8,8,8,8,8,8,8,8,8,8,8,8,8,8,8,8,8,8,8,8,8,8,8,8,8,8,8,8,8,8,8,8,8,8,8,8,8,8,8,8,8,8,8,8,8,8,8,8,8,8,8,8,8,8,8,8,8,8,8,8,8,8,8,8,8,8,8,8,8,8,8,8,8,8,8,8,8,8,8,8,8,8,8,8,8,8,8,8,8,8,8]⟩:ByteArray).size,wrap64 (56+wrap64 ((⟨#[0,1,2,2,3,3,3,3,4,4,4,4,4,4,4,4,5,5,5,5,5,5,5,5,5,5,5,5,5,5,5,5,6,6,6,6,6,6,6,6,6,6,6,6,6,6,6,6,6,6,6,6,6,6,6,6,6,6,6,6,6,6,6,6,7,7,7,7,7,7,7,7,7,7,7,7,7,7,7,7,7,7,7,7,7,7,7,7,7,7,7,7,7,7,7,7,7,7,7,7,7,7,7,7,7,7,7,7,7,7,7,7,7,7,7,7,7,7,7,7,7,7,7,7,7,7,7,7,8,8,8,8,8,8,8,8,8,8,8,8,8,8,8,8,8,8,8,8,8,8,8,8,8,8,8,8,8,8,8,8,8,8,8,8,8,8,8,8,8,8,8,8,8,8,8,8,8,8,8,8,8,8,8,8,8,8,8,8,8,8,8,8,8,8,8,8,8,8,8,8,8,8,8,8,8,8,8,8,8,8,8,8,8,8,8,8,8,8,8,8,8,8,8,8,8,8,8,8,8,8,8,8,8,8,8,8,8,8,8,8,8,8,8,8,8,8,8,8,8,8,8,8,8,8,8,8]⟩:ByteArray)[(x / 4294967296 / 65536 / 256).toNat]'h).toNat)=v)):Calls Tryz.prog 123 #[.int .u64 x] w fun e w'=>e=.returned (.int .i64 v)/\w=w':=by
 go_enter Tryz.func123,Tryz.ntmps123;go_wp2;go_ret;exact ⟨congrArg (fun z=>Ending.returned (Value.int .i64 z)) (hv.out _),rfl⟩
def L8 (i:Nat):Nat:=if i=0 then 0 else if i<2 then 1 else if i<4 then 2 else if i<8 then 3 else if i<16 then 4 else if i<32 then 5 else if i<64 then 6 else if i<128 then 7 else 8
set_option maxRecDepth 100000 in
theorem zeB:∀ i,i<256->(([0,1,2,2,3,3,3,3,4,4,4,4,4,4,4,4,5,5,5,5,5,5,5,5,5,5,5,5,5,5,5,5,6,6,6,6,6,6,6,6,6,6,6,6,6,6,6,6,6,6,6,6,6,6,6,6,6,6,6,6,6,6,6,6,7,7,7,7,7,7,7,7,7,7,7,7,7,7,7,7,7,7,7,7,7,7,7,7,7,7,7,7,7,7,7,7,7,7,7,7,7,7,7,7,7,7,7,7,7,7,7,7,7,7,7,7,7,7,7,7,7,7,7,7,7,7,7,7,8,8,8,8,8,8,8,8,8,8,8,8,8,8,8,8,8,8,8,8,8,8,8,8,8,8,8,8,8,8,8,8,8,8,8,8,8,8,8,8,8,8,8,8,8,8,8,8,8,8,8,8,8,8,8,8,8,8,8,8,8,8,8,8,8,8,8,8,8,8,8,8,8,8,8,8,8,8,8,8,8,8,8,8,8,8,8,8,8,8,8,8,8,8,8,8,8,8,8,8,8,8,8,8,8,8,8,8,8,8,8,8,8,8,8,8,8,8,8,8,8,8,8,8,8,8,8,8]:List UInt8).getD i 0).toNat=L8 i:=by decide +kernel
set_option maxRecDepth 100000 in
theorem z2a (i:Nat) (h:i<(⟨#[0,1,2,2,3,3,3,3,4,4,4,4,4,4,4,4,5,5,5,5,5,5,5,5,5,5,5,5,5,5,5,5,6,6,6,6,6,6,6,6,6,6,6,6,6,6,6,6,6,6,6,6,6,6,6,6,6,6,6,6,6,6,6,6,7,7,7,7,7,7,7,7,7,7,7,7,7,7,7,7,7,7,7,7,7,7,7,7,7,7,7,7,7,7,7,7,7,7,7,7,7,7,7,7,7,7,7,7,7,7,7,7,7,7,7,7,7,7,7,7,7,7,7,7,7,7,7,7,8,8,8,8,8,8,8,8,8,8,8,8,8,8,8,8,8,8,8,8,8,8,8,8,8,8,8,8,8,8,8,8,8,8,8,8,8,8,8,8,8,8,8,8,8,8,8,8,8,8,8,8,8,8,8,8,8,8,8,8,8,8,8,8,8,8,8,8,8,8,8,8,8,8,8,8,8,8,8,8,8,8,8,8,8,8,8,8,8,8,8,8,8,8,8,8,8,8,8,8,8,8,8,8,8,8,8,8,8,8,8,8,8,8,8,8,8,8,8,8,8,8,8,8,8,8,8,8]⟩:ByteArray).size):((⟨#[0,1,2,2,3,3,3,3,4,4,4,4,4,4,4,4,5,5,5,5,5,5,5,5,5,5,5,5,5,5,5,5,6,6,6,6,6,6,6,6,6,6,6,6,6,6,6,6,6,6,6,6,6,6,6,6,6,6,6,6,6,6,6,6,7,7,7,7,7,7,7,7,7,7,7,7,7,7,7,7,7,7,7,7,7,7,7,7,7,7,7,7,7,7,7,7,7,7,7,7,7,7,7,7,7,7,7,7,7,7,7,7,7,7,7,7,7,7,7,7,7,7,7,7,7,7,7,7,8,8,8,8,8,8,8,8,8,8,8,8,8,8,8,8,8,8,8,8,8,8,8,8,8,8,8,8,8,8,8,8,8,8,8,8,8,8,8,8,8,8,8,8,8,8,8,8,8,8,8,8,8,8,8,8,8,8,8,8,8,8,8,8,8,8,8,8,8,8,8,8,8,8,8,8,8,8,8,8,8,8,8,8,8,8,8,8,8,8,8,8,8,8,8,8,8,8,8,8,8,8,8,8,8,8,8,8,8,8,8,8,8,8,8,8,8,8,8,8,8,8,8,8,8,8,8,8]⟩:ByteArray)[i]'h).toNat=L8 i:=by
 have h2:i<256:=h;have:=zeB i h2;rw [List.getD_eq_getElem?_getD,List.getElem?_eq_getElem (by exact h)] at this;exact this
theorem z2y (i:Nat):L8 i<=8:=by unfold L8;repeat' split <;> try omega
theorem zaw (i:Nat) (h0:i≠0) (h:i<256):1<=L8 i/\2 ^ (L8 i - 1)<=i/\i<2 ^ L8 i:=by
 unfold L8;repeat' split
 all_goals (try omega)
theorem z2s (n i:Nat) (hn:n<=56):wrap64 ((n:Int)+wrap64 ((L8 i:Nat):Int))=((n+L8 i:Nat):Int):=by
 have:=z2y i;unfold wrap64;omega
theorem zeC (i:Nat):wrap64 (wrap64 ((L8 i:Nat):Int))=((L8 i:Nat):Int):=by
 have:=z2y i;unfold wrap64;omega
def LEN (X:Nat):Nat:=
 if 4294967296<=X then (if 281474976710656<=X then (if 72057594037927936<=X then 56+L8 (X / 72057594037927936) else 48+L8 (X / 281474976710656)) else (if 1099511627776<=X then 40+L8 (X / 1099511627776) else 32+L8 (X / 4294967296)))
 else (if 65536<=X then (if 16777216<=X then 24+L8 (X / 16777216) else 16+L8 (X / 65536)) else (if 256<=X then 8+L8 (X / 256) else L8 X))
theorem zcV (X:Nat) (hX:X<2 ^ 64) (h0:¬ 4294967296<=X) (h1:¬ 65536<=X) (h2:¬ 256<=X) (w:World):Calls Tryz.prog 123 #[.int .u64 (X:Int)] w fun e w'=>e=.returned (.int .i64 ((0+L8 (X / 1):Nat):Int))/\w=w':=by
 have e:((X:Int)).toNat=X / 1:=by omega
 refine zbv X _ w (by omega) (by omega) (by omega) (by omega) (by omega) fun h=>?_;rw [z2a _ h,e];exact (zeC _).trans (by rw [Nat.zero_add])
theorem zcW (X:Nat) (hX:X<2 ^ 64) (h0:¬ 4294967296<=X) (h1:¬ 65536<=X) (h2:256<=X) (w:World):Calls Tryz.prog 123 #[.int .u64 (X:Int)] w fun e w'=>e=.returned (.int .i64 ((8+L8 (X / 256):Nat):Int))/\w=w':=by
 have e:((X:Int) / 256).toNat=X / 256:=by omega
 refine zbw X _ w (by omega) (by omega) (by omega) (by omega) (by omega) fun h=>?_;rw [z2a _ h,e];exact z2s 8 _ (by decide)
theorem zcX (X:Nat) (hX:X<2 ^ 64) (h0:¬ 4294967296<=X) (h1:65536<=X) (h2:¬ 16777216<=X) (w:World):Calls Tryz.prog 123 #[.int .u64 (X:Int)] w fun e w'=>e=.returned (.int .i64 ((16+L8 (X / 65536):Nat):Int))/\w=w':=by
 have e:((X:Int) / 65536).toNat=X / 65536:=by omega
 refine zbx X _ w (by omega) (by omega) (by omega) (by omega) (by omega) fun h=>?_;rw [z2a _ h,e];exact z2s 16 _ (by decide)
theorem zcY (X:Nat) (hX:X<2 ^ 64) (h0:¬ 4294967296<=X) (h1:65536<=X) (h2:16777216<=X) (w:World):Calls Tryz.prog 123 #[.int .u64 (X:Int)] w fun e w'=>e=.returned (.int .i64 ((24+L8 (X / 16777216):Nat):Int))/\w=w':=by
 have e:((X:Int) / 65536 / 256).toNat=X / 16777216:=by omega
 refine zby X _ w (by omega) (by omega) (by omega) (by omega) (by omega) fun h=>?_;rw [z2a _ h,e];exact z2s 24 _ (by decide)
theorem zcZ (X:Nat) (hX:X<2 ^ 64) (h0:4294967296<=X) (h1:¬ 281474976710656<=X) (h2:¬ 1099511627776<=X) (w:World):Calls Tryz.prog 123 #[.int .u64 (X:Int)] w fun e w'=>e=.returned (.int .i64 ((32+L8 (X / 4294967296):Nat):Int))/\w=w':=by
 have e:((X:Int) / 4294967296).toNat=X / 4294967296:=by omega
 refine zbz X _ w (by omega) (by omega) (by omega) (by omega) (by omega) fun h=>?_;rw [z2a _ h,e];exact z2s 32 _ (by decide)
theorem zd0 (X:Nat) (hX:X<2 ^ 64) (h0:4294967296<=X) (h1:¬ 281474976710656<=X) (h2:1099511627776<=X) (w:World):Calls Tryz.prog 123 #[.int .u64 (X:Int)] w fun e w'=>e=.returned (.int .i64 ((40+L8 (X / 1099511627776):Nat):Int))/\w=w':=by
 have e:((X:Int) / 4294967296 / 256).toNat=X / 1099511627776:=by omega
 refine zbA X _ w (by omega) (by omega) (by omega) (by omega) (by omega) fun h=>?_;rw [z2a _ h,e];exact z2s 40 _ (by decide)
theorem zd1 (X:Nat) (hX:X<2 ^ 64) (h0:4294967296<=X) (h1:281474976710656<=X) (h2:¬ 72057594037927936<=X) (w:World):Calls Tryz.prog 123 #[.int .u64 (X:Int)] w fun e w'=>e=.returned (.int .i64 ((48+L8 (X / 281474976710656):Nat):Int))/\w=w':=by
 have e:((X:Int) / 4294967296 / 65536).toNat=X / 281474976710656:=by omega
 refine zbB X _ w (by omega) (by omega) (by omega) (by omega) (by omega) fun h=>?_;rw [z2a _ h,e];exact z2s 48 _ (by decide)
theorem zd2 (X:Nat) (hX:X<2 ^ 64) (h0:4294967296<=X) (h1:281474976710656<=X) (h2:72057594037927936<=X) (w:World):Calls Tryz.prog 123 #[.int .u64 (X:Int)] w fun e w'=>e=.returned (.int .i64 ((56+L8 (X / 72057594037927936):Nat):Int))/\w=w':=by
 have e:((X:Int) / 4294967296 / 65536 / 256).toNat=X / 72057594037927936:=by omega
 refine zbC X _ w (by omega) (by omega) (by omega) (by omega) (by omega) fun h=>?_;rw [z2a _ h,e];exact z2s 56 _ (by decide)
theorem zhc (X:Nat) (hX:X<2 ^ 64) (w:World):Calls Tryz.prog 123 #[.int .u64 (X:Int)] w fun e w'=>e=.returned (.int .i64 ((LEN X:Nat):Int))/\w=w':=by
 unfold LEN;split
 ·split
  ·split
   ·exact zd2 X hX (by omega) (by omega) (by omega) w
   ·exact zd1 X hX (by omega) (by omega) (by omega) w
  ·split
   ·exact zd0 X hX (by omega) (by omega) (by omega) w
   ·exact zcZ X hX (by omega) (by omega) (by omega) w
 ·split
  ·split
   ·exact zcY X hX (by omega) (by omega) (by omega) w
   ·exact zcX X hX (by omega) (by omega) (by omega) w
  ·split
   ·exact zcW X hX (by omega) (by omega) (by omega) w
   ·have k:=zcV X hX (by omega) (by omega) (by omega) w
    rw [Nat.div_one,Nat.zero_add] at k;exact k
theorem z2t {X n:Nat} (h0:X / 2 ^ n≠0) (h:X / 2 ^ n<256):1<=n+L8 (X / 2 ^ n)/\2 ^ (n+L8 (X / 2 ^ n) - 1)<=X/\X<2 ^ (n+L8 (X / 2 ^ n)):=by
 obtain ⟨a,b,c⟩:=zaw _ h0 h;have hp:=Nat.two_pow_pos n;refine ⟨by omega,?_,?_⟩
 ·rw [show n+L8 (X / 2 ^ n) - 1=n+(L8 (X / 2 ^ n) - 1) by omega,Nat.pow_add]
  exact Nat.le_trans (Nat.mul_le_mul_left _ b) (Nat.mul_div_le X (2 ^ n))
 ·rw [Nat.pow_add,Nat.mul_comm]
  exact (Nat.div_lt_iff_lt_mul hp).1 c
theorem z5F (X:Nat) (hX:X<2 ^ 64) (h0:X≠0):1<=LEN X/\2 ^ (LEN X - 1)<=X/\X<2 ^ LEN X:=by
 unfold LEN;split
 ·split
  ·split
   ·exact z2t (n:=56) (by omega) (by omega)
   ·exact z2t (n:=48) (by omega) (by omega)
  ·split
   ·exact z2t (n:=40) (by omega) (by omega)
   ·exact z2t (n:=32) (by omega) (by omega)
 ·split
  ·split
   ·exact z2t (n:=24) (by omega) (by omega)
   ·exact z2t (n:=16) (by omega) (by omega)
  ·split
   ·exact z2t (n:=8) (by omega) (by omega)
   ·exact zaw X h0 (by omega)
theorem zeD (x r:Int) (w:World) (c:∀ w,Calls Tryz.prog 123 #[.int .u64 x] w fun e w'=>e=.returned (.int .i64 r)/\w=w') (h0:0<=r) (h1:r<=64):
  Calls Tryz.prog 92 #[.int .u64 x] w fun e w'=>e=.returned (.int .i64 (r - 1))/\w=w':=by
 go_enter Tryz.func92,Tryz.ntmps92;go_wp2_with fail
 refine (c _).mono ?_;rintro e w' ⟨rfl,rfl⟩;go_wp2;go_ret;exact ⟨rfl,rfl⟩
theorem zd3 {h:Nat} (hh:h<=63):MASK ((h:Int)+1)=TREE h:=by
 unfold MASK TREE;rw [show min ((h:Int)+1).toNat 64=h+1 by omega]
theorem zeE (h r:Int) (w:World) (e:wrap64 (h+1)=h+1) (c:∀ w,Calls Tryz.prog 111 #[.int .i64 (h+1)] w fun e w'=>e=.returned (.int .u64 r)/\w=w'):
  Calls Tryz.prog 93 #[.int .i64 h] w fun e w'=>e=.returned (.int .u64 r)/\w=w':=by
 go_enter Tryz.func93,Tryz.ntmps93;go_wp2_with fail
 refine (c _).mono ?_;rintro e w' ⟨rfl,rfl⟩;go_wp2;go_ret;exact ⟨rfl,rfl⟩
theorem z2X (h:Nat) (hh:h<=63) (w:World):Calls Tryz.prog 93 #[.int .i64 (h:Int)] w fun e w'=>e=.returned (.int .u64 ((TREE h:Nat):Int))/\w=w':=by
 refine zeE h _ w (by unfold wrap64;omega) (fun w=>?_);rw [<-zd3 hh];exact zab ((h:Int)+1) (by omega) w
theorem zd4 (n c r:Int) (w:World) (e:IntKind.u64.wrap (IntKind.u64.wrap (n*2) - IntKind.u64.wrap c)=r) (k:∀ w,Calls Tryz.prog 90 #[.int .u64 n] w fun e w'=>e=.returned (.int .i64 c)/\w=w'):
  Calls Tryz.prog 60 #[.int .u64 n] w fun e w'=>e=.returned (.int .u64 r)/\w=w':=by
 go_enter Tryz.func60,Tryz.ntmps60;go_wp2_with fail
 refine (k _).mono ?_;rintro e w' ⟨rfl,rfl⟩;go_wp2;go_ret;exact ⟨rfl,rfl⟩
theorem z5G (n:Nat) (hn:n<2 ^ 63) (w:World):Calls Tryz.prog 60 #[.int .u64 (n:Int)] w fun e w'=>e=.returned (.int .u64 ((z01 n:Nat):Int))/\w=w':=by
 refine zd4 n (POP n:Nat) _ w ?_ (fun w=>z6O n (by omega) w);rw [z8l (by omega),z0b,z0b,z0b];have:=z0C n;have:=zfJ n;omega
theorem zeF (n r:Int) (w:World) (h':¬ 4611686018427387904<=n) (c:∀ w,Calls Tryz.prog 60 #[.int .u64 n] w fun e w'=>e=.returned (.int .u64 r)/\w=w'):
  Calls Tryz.prog 30 #[.int .u64 n] w fun e w'=>e=.returned (.tuple #[.int .u64 r,.bool true])/\w=w':=by
 go_enter Tryz.func30,Tryz.ntmps30;go_wp2_with fail
 refine (c _).mono ?_;rintro e w' ⟨rfl,rfl⟩;go_wp2;go_ret2;exact ⟨rfl,rfl⟩
theorem leaf_ok (n:Nat) (hn:n<4611686018427387904) (w:World):Calls Tryz.prog 30 #[.int .u64 (n:Int)] w fun e w'=>e=.returned (.tuple #[.int .u64 ((z01 n:Nat):Int),.bool true])/\w=w':=
 zeF n _ w (by omega) (fun w=>z5G n (by omega) w)
theorem zbD (p h:Int) (w:World):Calls Tryz.prog 106 #[.int .u64 p,.int .i64 h,.bool true] w fun e w'=>e=.returned (.int .u64 (IntKind.u64.wrap (p+1)))/\w=w':=by
 go_enter Tryz.func106,Tryz.ntmps106;go_wp2;go_ret;exact ⟨rfl,rfl⟩
theorem zd5 (p h t:Int) (w:World) (c:∀ w,Calls Tryz.prog 93 #[.int .i64 h] w fun e w'=>e=.returned (.int .u64 t)/\w=w'):
  Calls Tryz.prog 106 #[.int .u64 p,.int .i64 h,.bool false] w fun e w'=>e=.returned (.int .u64 (IntKind.u64.wrap (IntKind.u64.wrap (p+t)+1)))/\w=w':=by
 go_enter Tryz.func106,Tryz.ntmps106;go_wp2_with fail
 refine (c _).mono ?_;rintro e w' ⟨rfl,rfl⟩;go_wp2;go_ret;exact ⟨rfl,rfl⟩
theorem z8v (p h t:Int) (w:World) (c:∀ w,Calls Tryz.prog 93 #[.int .i64 h] w fun e w'=>e=.returned (.int .u64 t)/\w=w'):
  Calls Tryz.prog 98 #[.int .u64 p,.int .i64 h,.bool true] w fun e w'=>e=.returned (.int .u64 (IntKind.u64.wrap (p - t)))/\w=w':=by
 go_enter Tryz.func98,Tryz.ntmps98;go_wp2_with fail
 refine (c _).mono ?_;rintro e w' ⟨rfl,rfl⟩;go_wp2;go_ret;exact ⟨rfl,rfl⟩
theorem z9C (p h t:Int) (w:World) (c:∀ w,Calls Tryz.prog 93 #[.int .i64 h] w fun e w'=>e=.returned (.int .u64 t)/\w=w'):
  Calls Tryz.prog 98 #[.int .u64 p,.int .i64 h,.bool false] w fun e w'=>e=.returned (.int .u64 (IntKind.u64.wrap (p+t)))/\w=w':=by
 go_enter Tryz.func98,Tryz.ntmps98;go_wp2_with fail
 refine (c _).mono ?_;rintro e w' ⟨rfl,rfl⟩;go_wp2;go_ret;exact ⟨rfl,rfl⟩
def PL:Nat->Nat->Nat->List Nat
 | 0,_,_=>[]
 | k+1,o,X=>if X % 2=1 then o :: PL k (o+1) (X / 2) else PL k (o+1) (X / 2)
def z0x (X:Nat):List Nat:=PL 64 0 X
theorem z6Z:∀ k o,PL k o 0=[]
 | 0,_=>rfl
 | k+1,o=>by
   have:=z6Z k (o+1);simpa [PL] using this
theorem z7t:∀ k o X,(PL k o X).length=DSUM 1 k X
 | 0,_,_=>rfl
 | k+1,o,X=>by
   have ih:=z7t k (o+1) (X / 2);unfold PL DSUM;rw [Nat.pow_one];split
   ·rw [List.length_cons,ih];omega
   ·rw [ih];omega
theorem z0I (X:Nat):(z0x X).length=POP X:=z7t 64 0 X
theorem zax:∀ (t k o q:Nat),t<k->PL k o (2 ^ t*(2*q+1))=(o+t) :: PL k o (2 ^ (t+1)*q)
 | 0,0,_,_,h=>by omega
 | 0,k+1,o,q,_=>by
   have h1:(2 ^ 0*(2*q+1))=2*q+1:=by simp
   have h2:2 ^ (0+1)*q=2*q:=by simp
   rw [h1,h2];unfold PL;rw [if_pos (by omega),if_neg (by omega),show (2*q+1) / 2=q by omega,show 2*q / 2=q by omega];rfl
 | t+1,0,_,_,h=>by omega
 | t+1,k+1,o,q,h=>by
   have ih:=zax t k (o+1) q (by omega);have h1:2 ^ (t+1)*(2*q+1)=2*(2 ^ t*(2*q+1)):=by rw [Nat.pow_succ,Nat.mul_comm (2 ^ t) 2,Nat.mul_assoc]
   have h2:2 ^ (t+1+1)*q=2*(2 ^ (t+1)*q):=by rw [Nat.pow_succ,Nat.mul_comm (2 ^ (t+1)) 2,Nat.mul_assoc]
   rw [h1,h2];generalize 2 ^ t*(2*q+1)=a at ih ⊢;generalize 2 ^ (t+1)*q=b at ih ⊢;unfold PL;rw [if_neg (by omega),if_neg (by omega),show 2*a / 2=a by omega,show 2*b / 2=b by omega,ih,show o+(t+1)=o+1+t by omega]
theorem z6f (X:Nat):POP X<=64:=by
 have:∀ k X,DSUM 1 k X<=k:=fun k=>by
  induction k with
  | zero=>intro X;exact Nat.le_refl _
  | succ k ih=>
    intro X;have:=ih (X / 2);unfold DSUM;rw [Nat.pow_one];omega
 exact this 64 X
theorem zeG (q:Nat):(2*q+1) &&& (2*q)=2*q:=by
 apply Nat.eq_of_testBit_eq;intro i;rw [Nat.testBit_and];cases i with
 | zero=>simp [Nat.testBit_zero]
 | succ i=>
   rw [Nat.testBit_succ,Nat.testBit_succ,show (2*q+1) / 2=q by omega,show 2*q / 2=q by omega];simp
theorem z8w:∀ (t q:Nat),2 ^ t*(2*q+1) &&& (2 ^ t*(2*q+1) - 1)=2 ^ (t+1)*q
 | 0,q=>by
   have h1:(2 ^ 0*(2*q+1))=2*q+1:=by simp
   have h2:2 ^ (0+1)*q=2*q:=by simp
   rw [h1,h2];exact zeG q
 | t + 1,q=>by
   have ih:=z8w t q;have h1:2 ^ (t+1)*(2*q+1)=2*(2 ^ t*(2*q+1)):=by rw [Nat.pow_succ,Nat.mul_comm (2 ^ t) 2,Nat.mul_assoc]
   have h2:2 ^ (t+1+1)*q=2*(2 ^ (t+1)*q):=by rw [Nat.pow_succ,Nat.mul_comm (2 ^ (t+1)) 2,Nat.mul_assoc]
   have hp:0<2 ^ t*(2*q+1):=Nat.mul_pos (Nat.two_pow_pos t) (by omega);rw [h1,h2,<-ih];generalize 2 ^ t*(2*q+1)=a at hp ⊢;apply Nat.eq_of_testBit_eq;intro i;rw [Nat.testBit_and];cases i with
   | zero=>simp [Nat.testBit_zero]
   | succ i=>
     rw [Nat.testBit_succ,Nat.testBit_succ,Nat.testBit_succ,show 2*a / 2=a by omega,show (2*a - 1) / 2=a - 1 by omega,<-Nat.testBit_and,show 2*(a &&& (a - 1)) / 2=a &&& (a - 1) by omega]
def z16 (l:List Nat):List Value:=l.map fun (x:Nat)=>Value.int .i64 (x:Int)
theorem z9D (l:List Nat) (x:Nat):z16 (l ++ [x])=z16 l ++ [.int .i64 (x:Int)]:=by simp [z16]
theorem z3H:∃ i,Tryz.prog.info? 3=some i/\i.zero=some (.int .i64 0)/\i.size=1/\i.bytes=8:=by
 have h:(Tryz.prog.info? 3).map (fun i=>(i.zero,i.size,i.bytes))=some (some (.int .i64 0),1,8):=by kernel_rfl
 obtain ⟨i,hi,h⟩:=Option.map_eq_some_iff.1 h;simp only [Prod.mk.injEq] at h;exact ⟨i,hi,h.1,h.2.1,h.2.2⟩
theorem zg9 {ops:Array Oper} {rest:List Oper} {o:Oper} {a:Act} {Q:Exit->Act->World->Prop} (w:World) (hgd:o.guard=none) (s x:Operand)
  (ho:o.op=.call {callee:=.builtin .append,args:=#[s,x],argTypes:=#[150,150]})
  (base:Nat) (v:Value) (n:Nat) (xs:List Nat) (hs:a.eval s=v) (hown:w.ownsRow base 3 1 v n (z16 xs))
  (b c:Nat) (y:Nat) (hx:a.eval x=.slice (some ⟨b,0,none⟩) 1 c) (hc:w.cell? ⟨b,0,none⟩=some (.int .i64 (y:Int)))
  (hb:n<=1000) (hbase:base<=w.heap.size)
  (h:∀ g cap w',w'.ownsRow base 3 1 (.slice (some ⟨g,0,none⟩) (n+1) cap) (n+1) (z16 (xs ++ [y]))->w.grownBy w' v.ownBlock->g<w'.heap.size->wpList Tryz.prog ops Q rest (a.put o.dst (.slice (some ⟨g,0,none⟩) (n+1) cap)) w'):wpList Tryz.prog ops Q (o :: rest) a w:=by
 obtain ⟨i,hi,hz,hs1,hby⟩:=z3H;refine wpList_append_lies w hgd s x 150 ho base 3 i (.int .i64 0) 1 8 Tryz.underlying150 hi hz hs1 hby rfl (by decide) v n (z16 xs) hs hown ⟨b,0,none⟩ 1 c [.int .i64 (y:Int)] hx rfl ?_ (fun u hu=>by simp at hu;subst hu;rfl) (by decide) (by simp only [maxLen];omega) (by omega) hbase w.heap.size rfl ?_
 ·intro j u hj
  cases j with
  | zero=>
    simp only [List.getElem?_cons_zero,Option.some.injEq] at hj;subst hj;exact hc
  | succ j=>simp at hj
 ·intro g cap w' h1 h2 _ h4
  rw [<-z9D] at h1;exact h g cap w' h1 h2 h4
theorem zd6 (n:Nat) (hn:n<=64) (w:World):∃ cur:Array Value,cur.size=n/\(Instr.makeSlice 150 (.int .i64 0) (.int .i64 (n:Int))).run Tryz.prog w=.ok (.slice (some ⟨w.heap.size,0,none⟩) 0 n) (w.alloc (.cells cur 3)):=by
 obtain ⟨i,hi,hz,hs1,hby⟩:=z3H;have h:=run_make (P:=Tryz.prog) w 150 3 i (.int .i64 0) Tryz.underlying150 hi hz .i64 .i64 0 n (by omega) (by omega) (by rw [hby];omega) (by omega);refine ⟨_,?_,h⟩;rw [size_madeCells,hs1];omega
theorem Tabled.below {w w':World} (h:Tabled w) (_:0<w.heap.size) (hb:Below w.heap.size w w'):Tabled w':=fun i hi=>(hb.cell (by exact World.block_lt_of_cell? _ _ (h i hi))).trans (h i hi)
theorem zga (X:Nat) (hX:X<2 ^ 64) (w:World) (hT:Tabled w) (h0:0<w.heap.size):Calls Tryz.prog 107 #[.int .u64 (X:Int)] w fun e w'=>
  ∃ g cap,e=.returned (.slice (some ⟨g,0,none⟩) (POP X) cap)/\w'.ownsRow w.heap.size 3 1 (.slice (some ⟨g,0,none⟩) (POP X) cap) (POP X) (z16 (z0x X))/\g<w'.heap.size/\Below w.heap.size w w':=by
 obtain ⟨cur,hcs,hmk⟩:=zd6 (POP X) (z6f X) w;have HX:Aside (X<2 ^ 64):=hX;have HT:Aside (Tabled w/\0<w.heap.size/\cur.size=POP X):=⟨hT,h0,hcs⟩
 have c1:=z6O X hX;clear hX hT h0 hcs;generalize hp:POP X=p at *
 have HP:Aside (POP X=p):=hp;clear hp;go_enter Tryz.func107,Tryz.ntmps107;go_wp2_with fail
 refine (c1 _).mono ?_;rintro e w' ⟨rfl,rfl⟩;clear c1;go_wp2;go_loopg [0,3] p (fun g s0 s2 wx=>∃ (x:Nat),Aside (∃ l:List Nat,l ++ z0x x=z0x X/\x<2 ^ 64/\g=POP x/\wx.ownsRow w.heap.size 3 1 s2 l.length (z16 l)/\(∃ b cap,s2=.slice (some ⟨b,0,none⟩) l.length cap/\b<wx.heap.size)/\Below w.heap.size w wx)/\s0=.int .u64 (x:Int))
 case atStart=>exact ⟨X,⟨[],rfl,HX.out,HP.out.symm,World.ownsRow_made w cur p (Nat.le_refl _) (by have:=z6f X;rw [HP.out] at this;simp only [maxLen];omega) (by rw [HT.out.2.2];omega),⟨_,_,rfl,by simp⟩,(Below.refl _ _).alloc (Nat.le_refl _) _⟩,rfl⟩
 case round=>
  obtain ⟨x,A,rfl⟩:=hrel;clear hmk;cases hx:((x:Int) == 0) with
  | true=>
    obtain ⟨l,hl,hxl,hg,hown,⟨b,cap,hs,hb⟩,hbel⟩:=A.out;have hx0:x=0:=by simpa using hx
    have hl2:l=z0x X:=by
     rw [hx0,show z0x 0=[] from z6Z 64 0,List.append_nil] at hl;exact hl
    have hlen:l.length=p:=by rw [hl2,z0I,HP.out]
    subst hs;rw [hlen,hl2] at hown;have R:Aside (wr.ownsRow w.heap.size 3 1 (.slice (some ⟨b,0,none⟩) p cap) p (z16 (z0x X))/\b<wr.heap.size/\Below w.heap.size w wr/\l.length=p):=⟨hown,hb,hbel,hlen⟩
    clear A hl hxl hg hown hb hbel hx0 hl2 hlen HX HT HP;go_wp2;go_ret;obtain ⟨h1,h2,h3,h4⟩:=R.out;refine ⟨b,cap,?_,h1,h2,h3⟩;rw [<-h4];rfl
  | false=>
    obtain ⟨l,hl,hxl,hg,hown,⟨b,cap,hs,hb⟩,hbel⟩:=A.out;have hx0:x≠0:=by simpa using hx
    obtain ⟨t,q,e⟩:=z7s x hx0;have ht:t<64:=(z6X hxl e).2;have cl:=z6Y x t wr (zfK x t q hxl e wr (HT.out.1.below HT.out.2.1 hbel));obtain ⟨y,hy⟩:∃ y,y=2 ^ (t+1)*q:=⟨_,rfl⟩
    have hya:x &&& (x - 1)=y:=by rw [e,hy];exact z8w t q
    have hstep:z0x x=t :: z0x y:=by
     rw [e,hy];have:=zax t 64 0 q ht;rw [Nat.zero_add] at this;exact this
    have hand:bits .and .u64 (x:Int) (IntKind.u64.wrap ((x:Int) - 1))=(y:Int):=by
     have hm:IntKind.u64.wrap ((x:Int) - 1)=((x - 1:Nat):Int):=by rw [z0b];omega
     rw [hm,z4r hxl (by omega),hya]
    have hyx:y<2 ^ 64:=Nat.lt_of_le_of_lt (by rw [<-hya];exact Nat.and_le_left) hxl
    have hlen:l.length<=1000:=by
     have h1:=congrArg List.length hl;have h2:=z6f X;rw [List.length_append,z0I X] at h1;omega
    have hPy:POP x=POP y+1:=by
     rw [<-z0I,<-z0I,hstep,List.length_cons]
    have R:Aside ((l ++ [t]) ++ z0x y=z0x X/\y<2 ^ 64/\gk=POP y+1/\wr.ownsRow w.heap.size 3 1 u3 l.length (z16 l)/\Below w.heap.size w wr/\l.length<=1000):=⟨by rw [List.append_assoc,List.singleton_append,<-hstep];exact hl,hyx,by rw [hg,hPy],hown,hbel,hlen⟩
    clear A hl hxl hg hown hs hb hbel hx0 e ht hy hya hstep hyx hlen hPy HX HT HP;go_wp2_with fail
    refine cl.mono ?_;rintro e w' ⟨rfl,rfl⟩;clear cl;go_wp2_with (at_builtin;refine zg9 _ rfl (.tmp 13) (.tmp 16) rfl w.heap.size u3 l.length l rfl (R.out.2.2.2.1.alloc _) wr.heap.size 1 t rfl (by rw [World.cell?_alloc_at _ _ _ _ rfl];rfl) R.out.2.2.2.2.2 (by have:=R.out.2.2.2.2.1.size;simp;omega) ?_;intro g cap w1 hown hgrow hg)
    obtain ⟨r1,r2,r3,r4,r5,r6⟩:=R.out;have R2:Aside ((l ++ [t]) ++ z0x y=z0x X/\y<2 ^ 64/\gk=POP y+1/\w1.ownsRow w.heap.size 3 1 (.slice (some ⟨g,0,none⟩) (l.length+1) cap) (l.length+1) (z16 (l ++ [t]))/\g<w1.heap.size/\Below w.heap.size w w1):=⟨r1,r2,r3,hown,hg,(r5.alloc r5.size _).grown hgrow (by have:=r5.size;simp;omega) (fun k e=>(r4.lt k e).1)⟩
    clear hown hgrow hg R r1 r2 r3 r4 r5 r6;go_wp2;go_roundg (gk - 1)
    case measure=>have:=R2.out.2.2.1;omega
    case rel=>
     obtain ⟨r1,r2,r3,r4,r5,r6⟩:=R2.out;have e:(l ++ [t]).length=l.length+1:=by simp
     exact ⟨y,⟨l ++ [t],r1,r2,by omega,by rw [e];exact r4,⟨g,cap,by rw [e],r5⟩,r6⟩,by first | rfl | (rw [hand])⟩
def SUMP (l:List Nat):Nat:=(l.map fun i=>2 ^ i).sum
theorem z8x:∀ k o X,∀ i∈PL k o X,o<=i/\i<o+k
 | 0,_,_,i,h=>by simp [PL] at h
 | k + 1,o,X,i,h=>by
   have ih:=z8x k (o+1) (X / 2) i;unfold PL at h;split at h
   ·rcases List.mem_cons.1 h with rfl | h
    ·omega
    ·have:=ih h
     omega
   ·have:=ih h
    omega
def z46 (X i:Nat):Nat:=(z0x X).getD i 0
theorem z5H {X i:Nat} (h:i<POP X):(z0x X)[i]?=some (z46 X i):=by
 rw [<-z0I] at h;unfold z46;rw [List.getD_eq_getElem?_getD,List.getElem?_eq_getElem h];rfl
theorem zeH {X i:Nat} (h:i<POP X):z46 X i<=63:=by
 have:=z8x 64 0 X _ (List.mem_of_getElem? (z5H h));omega
def PART (X i:Nat):Nat:=SUMP ((z0x X).take i)
theorem zd7 {w:World} {base g n cap:Nat} {X:Nat} (h:w.ownsRow base 3 1 (.slice (some ⟨g,0,none⟩) n cap) n (z16 (z0x X))) (i:Nat) (hi:i<POP X):w.cell? ⟨g,i,none⟩=some (.int .i64 (z46 X i:Nat)):=by
 have hlen:(z0x X).length=n:=by have:=h.1;simpa [z16] using this
 rw [z0I] at hlen;rw [h.cellAt i (by omega)];unfold z16;rw [List.getElem?_map,z5H hi];rfl
end Go.Proofs.YthmnailmbgondaaGreatDoor
