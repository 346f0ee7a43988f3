/-
  The digest's steps on words, as plain functions; how the walk spells them.
-/
import Derived.Test.YtapmheocllicnaaDoorWd
namespace Go.Proofs.YtapmheocllicnaaDoor
open Go.RowKit Go.BigFrame
def xW (a b : BitVec 32) : BitVec 32 := a ^^^ b
def aW (a b : BitVec 32) : BitVec 32 := a &&& b
def oW (a b : BitVec 32) : BitVec 32 := a ||| b
def nW (a : BitVec 32) : BitVec 32 := ~~~a
def sW (a b : BitVec 32) : BitVec 32 := a + b
def hR (n : Nat) (a : BitVec 32) : BitVec 32 := a >>> n
theorem xW_fact (a b : BitVec 32) : bits .xor .u32 (a.toNat : Int) (b.toNat : Int) = ((xW a b).toNat : Int) := by
  unfold xW; rw [u32_xor_nat _ _ a.isLt b.isLt, BitVec.toNat_xor]
theorem aW_fact (a b : BitVec 32) : bits .and .u32 (a.toNat : Int) (b.toNat : Int) = ((aW a b).toNat : Int) := by
  unfold aW; rw [u32_and_nat _ _ a.isLt b.isLt, BitVec.toNat_and]
theorem oW_fact (a b : BitVec 32) : bits .or .u32 (a.toNat : Int) (b.toNat : Int) = ((oW a b).toNat : Int) := by
  unfold oW; rw [u32_or_nat _ _ a.isLt b.isLt, BitVec.toNat_or]
theorem nW_fact (a : BitVec 32) : bits .xor .u32 (if IntKind.u32.signed = true then -1 else IntKind.u32.max) (a.toNat : Int) = ((nW a).toNat : Int) := by
  have h1 : (if IntKind.u32.signed = true then (-1 : Int) else IntKind.u32.max) = ((4294967295 : Nat) : Int) := by decide
  rw [h1, u32_xor_nat _ _ (by decide) a.isLt]
  unfold nW
  have h2 : (4294967295 : Nat) = (BitVec.allOnes 32).toNat := by decide
  rw [h2, ← BitVec.toNat_xor, BitVec.allOnes_xor]
theorem sW_fact (a b : BitVec 32) : ((a.toNat : Int) + (b.toNat : Int)) % 4294967296 = ((sW a b).toNat : Int) := by
  unfold sW; rw [BitVec.toNat_add]; omega
theorem sW_fact' (a b : BitVec 32) : IntKind.u32.wrap ((a.toNat : Int) + (b.toNat : Int)) = ((sW a b).toNat : Int) := by
  rw [IntKind.wrap_u32']; exact sW_fact a b
theorem hR_fact (a : BitVec 32) (n : Nat) : ((a.toNat : Int) / ((2 ^ n : Nat) : Int)) = ((hR n a).toNat : Int) := by
  unfold hR; rw [BitVec.toNat_ushiftRight, Nat.shiftRight_eq_div_pow]; rfl
theorem hR3 (a : BitVec 32) : (a.toNat : Int) / 8 = ((hR 3 a).toNat : Int) := hR_fact a 3
theorem hR10 (a : BitVec 32) : (a.toNat : Int) / 1024 = ((hR 10 a).toNat : Int) := hR_fact a 10
/-- a byte behind a word -/
def pW (a : BitVec 32) (b : BitVec 8) : BitVec 32 := a <<< 8 ||| b.setWidth 32
theorem pW_fact (a : BitVec 32) (b : BitVec 8) : bits .or .u32 ((a.toNat : Int) * 256 % 4294967296) (b.toNat : Int) = ((pW a b).toNat : Int) := by
  have h1 : ((a.toNat : Int) * 256 % 4294967296) = ((a.toNat * 256 % 4294967296 : Nat) : Int) := by omega
  have hb := b.isLt
  rw [h1, u32_or_nat _ _ (Nat.mod_lt _ (by decide)) (by omega)]
  unfold pW
  rw [BitVec.toNat_or, BitVec.toNat_shiftLeft, BitVec.toNat_setWidth, Nat.shiftLeft_eq, Nat.mod_eq_of_lt (show b.toNat < 2 ^ 32 by omega)]
/-- so many bytes as a word, the highest first -/
def beK (p : Nat → BitVec 8) : Nat → BitVec 32
  | 0 => 0#32
  | m + 1 => pW (beK p m) (p m)
def w0 (p : Nat → BitVec 8) (t : Nat) : BitVec 32 := beK (fun j => p (4 * t + j)) 4
def nearW (x : BitVec 32) : BitVec 32 := xW (xW (rR 7 x) (rR 18 x)) (hR 3 x)
def farW (y : BitVec 32) : BitVec 32 := xW (xW (rR 17 y) (rR 19 y)) (hR 10 y)
def nextW (W : Nat → BitVec 32) (t : Nat) : BitVec 32 := sW (sW (sW (W (t - 16)) (nearW (W (t - 15)))) (W (t - 7))) (farW (W (t - 2)))
def wK (p : Nat → BitVec 8) : Nat → Nat → BitVec 32
  | 0, j => if j < 16 then w0 p j else 0#32
  | m + 1, j => if j = 16 + m then nextW (wK p m) (16 + m) else wK p m j
def wordsW (p : Nat → BitVec 8) : Nat → BitVec 32 := wK p 48
def kL : List Nat := [1116352408, 1899447441, 3049323471, 3921009573, 961987163, 1508970993, 2453635748, 2870763221, 3624381080, 310598401, 607225278, 1426881987, 1925078388, 2162078206, 2614888103, 3248222580, 3835390401, 4022224774, 264347078, 604807628, 770255983, 1249150122, 1555081692, 1996064986, 2554220882, 2821834349, 2952996808, 3210313671, 3336571891, 3584528711, 113926993, 338241895, 666307205, 773529912, 1294757372, 1396182291, 1695183700, 1986661051, 2177026350, 2456956037, 2730485921, 2820302411, 3259730800, 3345764771, 3516065817, 3600352804, 4094571909, 275423344, 430227734, 506948616, 659060556, 883997877, 958139571, 1322822218, 1537002063, 1747873779, 1955562222, 2024104815, 2227730452, 2361852424, 2428436474, 2756734187, 3204031479, 3329325298]
def kT (j : Nat) : BitVec 32 := BitVec.ofNat 32 (kL.getD j 0)
def oneW (e f g h k w : BitVec 32) : BitVec 32 := sW (sW (sW (sW h (xW (xW (rR 6 e) (rR 11 e)) (rR 25 e))) (oW (aW e f) (aW (nW e) g))) k) w
def twoW (a b c : BitVec 32) : BitVec 32 := sW (xW (xW (rR 2 a) (rR 13 a)) (rR 22 a)) (oW (oW (aW a b) (aW a c)) (aW b c))
def rnd (k w : BitVec 32) (s : Nat → BitVec 32) : Nat → BitVec 32
  | 0 => sW (oneW (s 4) (s 5) (s 6) (s 7) k w) (twoW (s 0) (s 1) (s 2))
  | 4 => sW (s 3) (oneW (s 4) (s 5) (s 6) (s 7) k w)
  | j + 1 => s j
def rndK (W s : Nat → BitVec 32) : Nat → Nat → BitVec 32
  | 0 => s
  | n + 1 => rnd (kT n) (W n) (rndK W s n)
def blockF (s : Nat → BitVec 32) (p : Nat → BitVec 8) (j : Nat) : BitVec 32 := sW (s j) (rndK (wordsW p) s 64 j)
theorem xor_ch (e f g : BitVec 32) : xW (aW e f) (aW (nW e) g) = oW (aW e f) (aW (nW e) g) := by
  unfold xW aW nW oW
  apply BitVec.eq_of_getLsbD_eq
  intro i hi
  simp only [BitVec.getLsbD_xor, BitVec.getLsbD_and, BitVec.getLsbD_or, BitVec.getLsbD_not, hi]
  cases e.getLsbD i <;> cases f.getLsbD i <;> cases g.getLsbD i <;> rfl
theorem xor_maj (a b c : BitVec 32) : xW (xW (aW a b) (aW a c)) (aW b c) = oW (oW (aW a b) (aW a c)) (aW b c) := by
  unfold xW aW oW
  apply BitVec.eq_of_getLsbD_eq
  intro i hi
  simp only [BitVec.getLsbD_xor, BitVec.getLsbD_and, BitVec.getLsbD_or]
  cases a.getLsbD i <;> cases b.getLsbD i <;> cases c.getLsbD i <;> rfl
theorem sW_comm (a b : BitVec 32) : sW a b = sW b a := BitVec.add_comm a b
theorem zero42 (w : World) : Sem.run Tryd.prog (zeroValue 77) w = .ok (.agg (row 64 (wv fun _ => 0#32)).toArray) w := by kernel_rfl
theorem zero28 (w : World) : Sem.run Tryd.prog (zeroValue 68) w = .ok (.agg (row 8 (wv fun _ => 0#32)).toArray) w := by kernel_rfl
theorem zero29 (w : World) : Sem.run Tryd.prog (zeroValue 70) w = .ok (.agg (row 64 (yv fun _ => 0#8)).toArray) w := by kernel_rfl
theorem zero24 (w : World) : Sem.run Tryd.prog (zeroValue 25) w = .ok (.agg (row 32 (yv fun _ => 0#8)).toArray) w := by kernel_rfl
theorem info42 : (Tryd.prog.info? 77).map (·.size) = some 64 := by kernel_rfl
theorem info28 : (Tryd.prog.info? 68).map (·.size) = some 8 := by kernel_rfl
theorem info29 : (Tryd.prog.info? 70).map (·.size) = some 64 := by kernel_rfl
theorem info24 : (Tryd.prog.info? 25).map (·.size) = some 32 := by kernel_rfl
end Go.Proofs.YtapmheocllicnaaDoor
