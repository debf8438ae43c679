/- Contracts of library functions at this program, off the shelf: math/bits.Mul. Conditions: each theorem's own premises. -/
import Derived.Shelf.Small.Wraps
import Derived.Shelf.Bits.Mul64
import Derived.Ground.Names2Prog
import Derived.Shelf.Slices.SearchI
import Derived.Test.YtmehhojnefoedabProg
namespace Go.Proofs
open Go.Shelf
def Try.lays212_ren : Go.Shelf.Ren := ⟨fun | 212 => 209 | 263 => 215 | 264 => 216 | n => n, fun | 46 => 165 | 51 => 204 | 146 => 208 | 53 => 122 | 148 => 210 | n => n, fun | n => n⟩
theorem Try.lays212 : Go.Proofs.Lays.n212 Try.prog Try.lays212_ren := {
  mixed := by kernel_rfl
  f212 := Try.func209.trans (congrArg some (by kernel_rfl))
  f263 := Try.func215.trans (congrArg some (by kernel_rfl))
  f264 := Try.func216.trans (congrArg some (by kernel_rfl))
  t46 := Try.underlying165
  a46 := Try.isAgg165
  z46 := Try.sizeOf165
  v46 := Try.zeroValue165
  t51 := Try.underlying204
  a51 := Try.isAgg204
  z51 := Try.sizeOf204
  v51 := Try.zeroValue204
  t53 := Try.underlying122
  a53 := Try.isAgg122
  z53 := Try.sizeOf122
  v53 := Try.zeroValue122
  t146 := Try.underlying208
  a146 := Try.isAgg208
  z146 := Try.sizeOf208
  v146 := Try.zeroValue208
  t148 := Try.underlying210
  a148 := Try.isAgg210
  z148 := Try.sizeOf210
  v148 := Try.zeroValue210 }
open Go.RowKit Go.Lib in
theorem Try.bits_Mul (x y : Nat) (hx : x < 18446744073709551616) (hy : y < 18446744073709551616) (w : World) :
    Calls Try.prog 209 #[.int .u64 x, .int .u64 y] w fun e w' => e = .returned (.tuple #[.int .u64 ((x * y / 18446744073709551616 : Nat) : Int), .int .u64 ((x * y % 18446744073709551616 : Nat) : Int)]) ∧ w' = w := Any.bits_Mul Try.lays212 x y hx hy w
end Go.Proofs
