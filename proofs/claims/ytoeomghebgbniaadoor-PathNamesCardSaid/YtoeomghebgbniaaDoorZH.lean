/- The document's digest: four bytes as a word, one by one. Plain. -/
import Derived.Test.YtoeomghebgbniaaDoorSD
namespace Go.Proofs.YtoeomghebgbniaaDoor.Sha
open Go.RowKit
theorem k256 : (256 : BitVec 32).toNat = 256 := by decide
theorem k000 : (0 : BitVec 32).toNat = 0 := by decide
def hx (p : List UInt8) (t : Nat) : Nat → BitVec 32
  | 0 => 0
  | k + 1 => 256 * hx p t k + wd (at8 p (4 * t + k))
theorem hx_num (p : List UInt8) (t k : Nat) : (256 * u (hx p t k) % 4294967296 + u (wd (at8 p (4 * t + k)))) % 4294967296 = u (hx p t (k + 1)) := by
  have e : (256 * u (hx p t k)) % 4294967296 = u (256 * hx p t k) := by
    unfold u; rw [BitVec.toNat_mul, k256]; omega
  rw [e, add32]; rfl
theorem wd_lt (x : UInt8) : (wd x).toNat < 256 := by
  have h1 := b8_lt x
  have h2 := b8_u x
  unfold u at h2
  omega
theorem or_nat (h i r : Nat) (hr : r < 2 ^ i) : h * 2 ^ i ||| r = h * 2 ^ i + r := by
  rw [← Nat.shiftLeft_eq]; exact (Nat.shiftLeft_add_eq_or_of_lt hr h).symm
theorem four_nat (a b c d : Nat) (hb : b < 256) (hc : c < 256) (hd : d < 256) :
    ((a * 2 ^ 24 ||| b * 2 ^ 16) ||| c * 2 ^ 8) ||| d = a * 2 ^ 24 + b * 2 ^ 16 + c * 2 ^ 8 + d := by
  have e1 : a * 2 ^ 24 + b * 2 ^ 16 = (a * 2 ^ 8 + b) * 2 ^ 16 := by omega
  have e2 : a * 2 ^ 24 + b * 2 ^ 16 + c * 2 ^ 8 = (a * 2 ^ 16 + b * 2 ^ 8 + c) * 2 ^ 8 := by
    have q1 : (2 : Nat) ^ 24 = 2 ^ 16 * 2 ^ 8 := rfl
    have q2 : (2 : Nat) ^ 16 = 2 ^ 8 * 2 ^ 8 := rfl
    rw [Nat.add_mul, Nat.add_mul, Nat.mul_assoc, Nat.mul_assoc, ← q1, ← q2]
  have f1 := or_nat a 24 (b * 2 ^ 16) (by omega)
  have f2 := or_nat (a * 2 ^ 8 + b) 16 (c * 2 ^ 8) (by omega)
  have f3 := or_nat (a * 2 ^ 16 + b * 2 ^ 8 + c) 8 d (by omega)
  rw [← e1] at f2
  rw [← e2] at f3
  rw [f1, f2, f3]
theorem four_or (a b c d : BitVec 32) (ha : a.toNat < 256) (hb : b.toNat < 256) (hc : c.toNat < 256) (hd : d.toNat < 256) :
    256 * (256 * (256 * (256 * 0 + a) + b) + c) + d = shL a 24 ||| shL b 16 ||| shL c 8 ||| d := by
  apply BitVec.eq_of_toNat_eq
  have e1 : (shL a 24 ||| shL b 16 ||| shL c 8 ||| d).toNat = ((a.toNat * 2 ^ 24 ||| b.toNat * 2 ^ 16) ||| c.toNat * 2 ^ 8) ||| d.toNat := by
    simp only [shL, BitVec.toNat_or, BitVec.toNat_shiftLeft, Nat.shiftLeft_eq]
    rw [Nat.mod_eq_of_lt (by omega), Nat.mod_eq_of_lt (by omega), Nat.mod_eq_of_lt (by omega)]
  rw [e1, four_nat _ _ _ _ hb hc hd]
  simp only [BitVec.toNat_add, BitVec.toNat_mul, k256, k000]
  omega
theorem hx_four (p : List UInt8) (t : Nat) : hx p t 4 = be4 p t := by
  have e := four_or (wd (at8 p (4 * t))) (wd (at8 p (4 * t + 1))) (wd (at8 p (4 * t + 2))) (wd (at8 p (4 * t + 3))) (wd_lt _) (wd_lt _) (wd_lt _) (wd_lt _)
  exact e
theorem at32_words (p : List UInt8) (t : Nat) (h : t < 16) : at32 (words p 16) t = hx p t 4 := by
  rw [hx_four]
  simp [at32, words, List.getD, h]
end Go.Proofs.YtoeomghebgbniaaDoor.Sha
