/-
  The sum of the three bytes abc, by reckoning. No program plays a part.
-/
import Derived.Test.YtcfkhahehdpjbaaDoorObj
namespace Go.Proofs.YtcfkhahehdpjbaaDoor
open Go
set_option maxRecDepth 100000

theorem tail3 : tail 3 = 128 :: (List.replicate 52 0 ++ [0, 0, 0, 0, 0, 0, 0, 24]) := by kernel_rfl
theorem abcSched0 : sched ([97, 98, 99] ++ tail 3) 0 = [1633837952, 0, 0, 0, 0, 0, 0, 0, 0, 0, 0, 0, 0, 0, 0, 24] := by kernel_rfl
theorem abcSha : sha [97, 98, 99] = [0xba, 0x78, 0x16, 0xbf, 0x8f, 0x01, 0xcf, 0xea, 0x41, 0x41, 0x40, 0xde, 0x5d, 0xae, 0x22, 0x23, 0xb0, 0x03, 0x61, 0xa3, 0x96, 0x17, 0x7a, 0x9c, 0xb4, 0x10, 0xff, 0x61, 0xf2, 0x00, 0x15, 0xad] := by kernel_rfl
end Go.Proofs.YtcfkhahehdpjbaaDoor
