/-
  Bounds on the number that the first bytes of a string make up.
-/
import Derived.Test.YtfnbogdpabicnaaDoorKit
namespace Go.Proofs.YtfnbogdpabicnaaDoor
open Go.RowKit Go.Deep Go.Proofs.YtfnbogdpabicnaaDoor.Num

theorem val_bound (l : List UInt8) (k : Nat) (hk : k < 7) : val256 (l.take k) 0 < 281474976710656 := by
  have h := val256_lt (l.take k) 0 1 (by omega)
  have hl : (l.take k).length ≤ 6 := Nat.le_trans (List.length_take_le _ _) (by omega)
  have hp : 256 ^ (l.take k).length ≤ 256 ^ 6 := Nat.pow_le_pow_right (by omega) hl
  omega

theorem val_snoc (s : ByteArray) (k : Nat) (h : k < s.size) : val256 (s.data.toList.take (k + 1)) 0 = val256 (s.data.toList.take k) 0 * 256 + s[k].toNat := by
  rw [take_snoc s k h, val256_snoc]
end Go.Proofs.YtfnbogdpabicnaaDoor
