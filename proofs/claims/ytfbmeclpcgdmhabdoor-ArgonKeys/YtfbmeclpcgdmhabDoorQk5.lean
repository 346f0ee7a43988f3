/-
  Words of 64 bits and bytes, as the walk spells them; what the functions that turn words answer. Worlds in which nothing turned of what was there, but one block; plain facts, no word of the program.
-/
import Derived.Test.YtfbmeclpcgdmhabDoorChecked
import Derived.WalkSpells
import Derived.WalkLawsBesides
import Derived.LoopTactic
import Derived.Laws.BitsAllLaws
import Derived.Laws.Bits64b
import Derived.Laws.Bits64
import Derived.Deep.CutRange
import Derived.Test.YtfbmeclpcgdmhabDoorQk4
import Derived.Laws.AppendOwn
namespace Go.Proofs.YtfbmeclpcgdmhabDoor
open Go.RowKit Go.BigFrame
def wv (f:Nat → BitVec 64):Nat → Value:=fun j=>.int .u64 ((f j).toNat:Int)
def yv (f:Nat → BitVec 8):Nat → Value:=fun j=>.int .u8 ((f j).toNat:Int)
def rR (n:Nat) (a:BitVec 64):BitVec 64:=a >>> n ||| a <<< (64 - n)
def xW (a b:BitVec 64):BitVec 64:=a ^^^ b
def oW (a b:BitVec 64):BitVec 64:=a ||| b
def nW (a:BitVec 64):BitVec 64 := ~~~a
def sW (a b:BitVec 64):BitVec 64:=a + b
theorem xW_fact (a b:BitVec 64):bits .xor .u64 (a.toNat:Int) (b.toNat:Int) = ((xW a b).toNat:Int):=by
  unfold xW; rw [u64_xor_nat _ _ a.isLt b.isLt,BitVec.toNat_xor]
theorem oW_fact (a b:BitVec 64):bits .or .u64 (a.toNat:Int) (b.toNat:Int) = ((oW a b).toNat:Int):=by
  unfold oW; rw [u64_or_nat _ _ a.isLt b.isLt,BitVec.toNat_or]
theorem nW_fact (a:BitVec 64):bits .xor .u64 (if IntKind.u64.signed = true then -1 else IntKind.u64.max) (a.toNat:Int) = ((nW a).toNat:Int):=by
  have h1:(if IntKind.u64.signed = true then (-1:Int) else IntKind.u64.max) = ((18446744073709551615:Nat):Int):=by decide
  rw [h1,u64_xor_nat _ _ (by decide) a.isLt]
  unfold nW
  have h2:(18446744073709551615:Nat) = (BitVec.allOnes 64).toNat:=by decide
  rw [h2,← BitVec.toNat_xor,BitVec.allOnes_xor]
theorem sW_fact (a b:BitVec 64):((a.toNat:Int) + (b.toNat:Int)) % 18446744073709551616 = ((sW a b).toNat:Int):=by
  unfold sW; rw [BitVec.toNat_add]; omega
theorem sW_wrap (a b:BitVec 64):IntKind.u64.wrap ((a.toNat:Int) + (b.toNat:Int)) = ((sW a b).toNat:Int):=by
  rw [IntKind.wrap_u64]; exact sW_fact a b
theorem below_drewN (w:World):∀ n,Below w.heap.size w (w.drewN n)
  | 0=>Below.refl _ _
  | n + 1=>(below_drewN w n).drew
theorem rot_nat (a:BitVec 64) (n:Nat):bits .or .u64 (((a.toNat * 2 ^ (64 - n) % 18446744073709551616:Nat)):Int) ((a.toNat / 2 ^ n:Nat):Int) = ((rR n a).toNat:Int):=by
  have h1:a.toNat / 2 ^ n < 18446744073709551616:=Nat.lt_of_le_of_lt (Nat.div_le_self _ _) a.isLt
  rw [u64_or_nat _ _ (Nat.mod_lt _ (by decide)) h1]
  unfold rR
  rw [BitVec.toNat_or,BitVec.toNat_ushiftRight,BitVec.toNat_shiftLeft,Nat.shiftLeft_eq,Nat.shiftRight_eq_div_pow,Nat.or_comm]
theorem rot_nat' (a:BitVec 64) (n:Nat):bits .or .u64 ((a.toNat / 2 ^ n:Nat):Int) (((a.toNat * 2 ^ (64 - n) % 18446744073709551616:Nat)):Int) = ((rR n a).toNat:Int):=by
  have h1:a.toNat / 2 ^ n < 18446744073709551616:=Nat.lt_of_le_of_lt (Nat.div_le_self _ _) a.isLt
  rw [u64_or_nat _ _ h1 (Nat.mod_lt _ (by decide))]
  unfold rR
  rw [BitVec.toNat_or,BitVec.toNat_ushiftRight,BitVec.toNat_shiftLeft,Nat.shiftLeft_eq,Nat.shiftRight_eq_div_pow]
set_option maxHeartbeats 1000000 in
theorem rot_any (a:BitVec 64) (n:Nat) (hn:n = 32 ∨ n = 24 ∨ n = 16 ∨ n = 63) (w:World):
    Calls Tryd.prog 62 #[.int .u64 (a.toNat:Int),.int .i64 (-(n:Int))] w fun e w'=>e = .returned (.int .u64 ((rR n a).toNat:Int)) ∧ w' = w:=by
  have ha:=a.isLt
  have e32:bits BinOp.and IntKind.u64 (IntKind.u64.wrap (-32)) 63 = 32:=by decide +kernel
  have r32:bits .or .u64 ((a.toNat:Int) * 4294967296 % 18446744073709551616) ((a.toNat:Int) / 4294967296) = ((rR 32 a).toNat:Int):=rot_nat a 32
  replace r32:=hideit r32
  have e24:bits BinOp.and IntKind.u64 (IntKind.u64.wrap (-24)) 63 = 40:=by decide +kernel
  have r24:bits .or .u64 ((a.toNat:Int) * 1099511627776 % 18446744073709551616) ((a.toNat:Int) / 16777216) = ((rR 24 a).toNat:Int):=rot_nat a 24
  replace r24:=hideit r24
  have e16:bits BinOp.and IntKind.u64 (IntKind.u64.wrap (-16)) 63 = 48:=by decide +kernel
  have r16:bits .or .u64 ((a.toNat:Int) * 281474976710656 % 18446744073709551616) ((a.toNat:Int) / 65536) = ((rR 16 a).toNat:Int):=rot_nat a 16
  replace r16:=hideit r16
  have e63:bits BinOp.and IntKind.u64 (IntKind.u64.wrap (-63)) 63 = 1:=by decide +kernel
  have r63:bits .or .u64 ((a.toNat:Int) * 2 % 18446744073709551616) ((a.toNat:Int) / 9223372036854775808) = ((rR 63 a).toNat:Int):=rot_nat a 63
  replace r63:=hideit r63
  rcases hn with rfl | rfl | rfl | rfl
  · go_enter Tryd.func62,Tryd.ntmps62
    go_wp2
    go_ret
    exact ⟨ret_int r32.out,rfl⟩
  · go_enter Tryd.func62,Tryd.ntmps62
    go_wp2
    go_ret
    exact ⟨ret_int r24.out,rfl⟩
  · go_enter Tryd.func62,Tryd.ntmps62
    go_wp2
    go_ret
    exact ⟨ret_int r16.out,rfl⟩
  · go_enter Tryd.func62,Tryd.ntmps62
    go_wp2
    go_ret
    exact ⟨ret_int r63.out,rfl⟩
set_option maxHeartbeats 1000000 in
theorem right_any (a:BitVec 64) (n:Nat) (hn:n = 32 ∨ n = 24 ∨ n = 16 ∨ n = 63) (w:World):
    Calls Tryd.prog 81 #[.int .i64 (n:Int),.int .u64 (a.toNat:Int)] w fun e w'=>e = .returned (.int .u64 ((rR n a).toNat:Int)) ∧ w' = w:=by
  have n0:(0:Int) ≤ (n:Int):=by omega
  have n1:(n:Int) ≤ 63:=by omega
  go_enter Tryd.func81,Tryd.ntmps81
  go_wp2_with (go_at_call 62; refine (rot_any a n hn _).mono ?_; rintro e w' ⟨rfl,rfl⟩)
  go_ret
  exact ⟨rfl,rfl⟩
set_option maxHeartbeats 1000000 in
theorem turn_any (a:BitVec 64) (n:Nat) (hn:n = 32 ∨ n = 24 ∨ n = 16 ∨ n = 63) (w:World):
    Calls Tryd.prog 76 #[.int .i64 (n:Int),.int .u64 (a.toNat:Int)] w fun e w'=>e = .returned (.int .u64 ((rR n a).toNat:Int)) ∧ Below w.heap.size w w':=by
  have ha:=a.isLt
  have r32:bits .or .u64 ((a.toNat:Int) / 4294967296) ((a.toNat:Int) * 4294967296 % 18446744073709551616) = ((rR 32 a).toNat:Int):=rot_nat' a 32
  replace r32:=hideit r32
  have r24:bits .or .u64 ((a.toNat:Int) / 16777216) ((a.toNat:Int) * 1099511627776 % 18446744073709551616) = ((rR 24 a).toNat:Int):=rot_nat' a 24
  replace r24:=hideit r24
  have r16:bits .or .u64 ((a.toNat:Int) / 65536) ((a.toNat:Int) * 281474976710656 % 18446744073709551616) = ((rR 16 a).toNat:Int):=rot_nat' a 16
  replace r16:=hideit r16
  have r63:bits .or .u64 ((a.toNat:Int) / 9223372036854775808) ((a.toNat:Int) * 2 % 18446744073709551616) = ((rR 63 a).toNat:Int):=rot_nat' a 63
  replace r63:=hideit r63
  rcases hn with rfl | rfl | rfl | rfl
  · go_enter Tryd.func76,Tryd.ntmps76
    go_wp2
    go_quiet (fail)
    go_wp2
    go_ret
    exact ⟨ret_int r32.out,below_drewN _ _⟩
  · go_enter Tryd.func76,Tryd.ntmps76
    go_wp2
    go_quiet (fail)
    go_wp2
    go_ret
    exact ⟨ret_int r24.out,below_drewN _ _⟩
  · go_enter Tryd.func76,Tryd.ntmps76
    go_wp2
    go_quiet (fail)
    go_wp2
    go_ret
    exact ⟨ret_int r16.out,below_drewN _ _⟩
  · go_enter Tryd.func76,Tryd.ntmps76
    go_wp2
    go_quiet (fail)
    go_wp2
    go_ret
    exact ⟨ret_int r63.out,below_drewN _ _⟩
theorem right_32 (a:BitVec 64) (w:World):Calls Tryd.prog 81 #[.int .i64 32,.int .u64 (a.toNat:Int)] w fun e w'=>e = .returned (.int .u64 ((rR 32 a).toNat:Int)) ∧ w' = w:=right_any a 32 (by decide) w
theorem turn_32 (a:BitVec 64) (w:World):Calls Tryd.prog 76 #[.int .i64 32,.int .u64 (a.toNat:Int)] w fun e w'=>e = .returned (.int .u64 ((rR 32 a).toNat:Int)) ∧ Below w.heap.size w w':=turn_any a 32 (by decide) w
theorem right_24 (a:BitVec 64) (w:World):Calls Tryd.prog 81 #[.int .i64 24,.int .u64 (a.toNat:Int)] w fun e w'=>e = .returned (.int .u64 ((rR 24 a).toNat:Int)) ∧ w' = w:=right_any a 24 (by decide) w
theorem turn_24 (a:BitVec 64) (w:World):Calls Tryd.prog 76 #[.int .i64 24,.int .u64 (a.toNat:Int)] w fun e w'=>e = .returned (.int .u64 ((rR 24 a).toNat:Int)) ∧ Below w.heap.size w w':=turn_any a 24 (by decide) w
theorem right_16 (a:BitVec 64) (w:World):Calls Tryd.prog 81 #[.int .i64 16,.int .u64 (a.toNat:Int)] w fun e w'=>e = .returned (.int .u64 ((rR 16 a).toNat:Int)) ∧ w' = w:=right_any a 16 (by decide) w
theorem turn_16 (a:BitVec 64) (w:World):Calls Tryd.prog 76 #[.int .i64 16,.int .u64 (a.toNat:Int)] w fun e w'=>e = .returned (.int .u64 ((rR 16 a).toNat:Int)) ∧ Below w.heap.size w w':=turn_any a 16 (by decide) w
theorem right_63 (a:BitVec 64) (w:World):Calls Tryd.prog 81 #[.int .i64 63,.int .u64 (a.toNat:Int)] w fun e w'=>e = .returned (.int .u64 ((rR 63 a).toNat:Int)) ∧ w' = w:=right_any a 63 (by decide) w
theorem turn_63 (a:BitVec 64) (w:World):Calls Tryd.prog 76 #[.int .i64 63,.int .u64 (a.toNat:Int)] w fun e w'=>e = .returned (.int .u64 ((rR 63 a).toNat:Int)) ∧ Below w.heap.size w w':=turn_any a 63 (by decide) w
def mix4 (a b c d x y:BitVec 64):BitVec 64 × BitVec 64 × BitVec 64 × BitVec 64:=
  let a1:=sW a (sW b x)
  let d1:=rR 32 (xW d a1)
  let c1:=sW c d1
  let b1:=rR 24 (xW b c1)
  let a2:=sW a1 (sW b1 y)
  let d2:=rR 16 (xW d1 a2)
  let c2:=sW c1 d2
  let b2:=rR 63 (xW b1 c2)
  (a2,b2,c2,d2)
set_option maxHeartbeats 1000000 in
theorem mix_any (a b c d x y:BitVec 64) (w:World):
    Calls Tryd.prog 79 #[.int .u64 (a.toNat:Int),.int .u64 (b.toNat:Int),.int .u64 (c.toNat:Int),.int .u64 (d.toNat:Int),.int .u64 (x.toNat:Int),.int .u64 (y.toNat:Int)] w fun e w'=>e = .returned (.tuple #[.int .u64 ((mix4 a b c d x y).1.toNat:Int),.int .u64 ((mix4 a b c d x y).2.1.toNat:Int),.int .u64 ((mix4 a b c d x y).2.2.1.toNat:Int),.int .u64 ((mix4 a b c d x y).2.2.2.toNat:Int)]) ∧ w' = w:=by
  obtain ⟨p1,hp1⟩:∃ p,p = sW b x:=⟨_,rfl⟩
  obtain ⟨a1,ha1⟩:∃ p,p = sW a p1:=⟨_,rfl⟩
  obtain ⟨q1,hq1⟩:∃ p,p = xW d a1:=⟨_,rfl⟩
  obtain ⟨d1,hd1⟩:∃ p,p = rR 32 q1:=⟨_,rfl⟩
  obtain ⟨c1,hc1⟩:∃ p,p = sW c d1:=⟨_,rfl⟩
  obtain ⟨q2,hq2⟩:∃ p,p = xW b c1:=⟨_,rfl⟩
  obtain ⟨b1,hb1⟩:∃ p,p = rR 24 q2:=⟨_,rfl⟩
  obtain ⟨p2,hp2⟩:∃ p,p = sW b1 y:=⟨_,rfl⟩
  obtain ⟨a2,ha2⟩:∃ p,p = sW a1 p2:=⟨_,rfl⟩
  obtain ⟨q3,hq3⟩:∃ p,p = xW d1 a2:=⟨_,rfl⟩
  obtain ⟨d2,hd2⟩:∃ p,p = rR 16 q3:=⟨_,rfl⟩
  obtain ⟨c2,hc2⟩:∃ p,p = sW c1 d2:=⟨_,rfl⟩
  obtain ⟨q4,hq4⟩:∃ p,p = xW b1 c2:=⟨_,rfl⟩
  obtain ⟨b2,hb2⟩:∃ p,p = rR 63 q4:=⟨_,rfl⟩
  have hm:mix4 a b c d x y = (a2,b2,c2,d2):=by
    rw [hb2,hq4,hc2,hd2,hq3,ha2,hp2,hb1,hq2,hc1,hd1,hq1,ha1,hp1]
    rfl
  rw [hm]
  have f1:=sW_wrap b x
  rw [← hp1] at f1
  have f2:=sW_wrap a p1
  rw [← ha1] at f2
  have f3:=xW_fact d a1
  rw [← hq1] at f3
  have f4:=sW_wrap c d1
  rw [← hc1] at f4
  have f5:=xW_fact b c1
  rw [← hq2] at f5
  have f6:=sW_wrap b1 y
  rw [← hp2] at f6
  have f7:=sW_wrap a1 p2
  rw [← ha2] at f7
  have f8:=xW_fact d1 a2
  rw [← hq3] at f8
  have f9:=sW_wrap c1 d2
  rw [← hc2] at f9
  have f10:=xW_fact b1 c2
  rw [← hq4] at f10
  have r1:=hideit (right_32 q1)
  rw [← hd1] at r1
  have r2:=hideit (right_24 q2)
  rw [← hb1] at r2
  have r3:=hideit (right_16 q3)
  rw [← hd2] at r3
  have r4:=hideit (right_63 q4)
  rw [← hb2] at r4
  clear hm hp1 ha1 hq1 hd1 hc1 hq2 hb1 hp2 ha2 hq3 hd2 hc2 hq4 hb2
  go_enter Tryd.func79,Tryd.ntmps79
  go_upto_region 3 with (go_at_call 81; refine (r1.out _).mono ?_; rintro e w' ⟨rfl,hw'⟩; subst hw'; clear r1)
  go_upto_region 5 with (go_at_call 81; refine (r2.out _).mono ?_; rintro e w' ⟨rfl,hw'⟩; subst hw'; clear r2)
  go_upto_region 7 with (go_at_call 81; refine (r3.out _).mono ?_; rintro e w' ⟨rfl,hw'⟩; subst hw'; clear r3)
  go_wp2_with (go_at_call 81; refine (r4.out _).mono ?_; rintro e w' ⟨rfl,hw'⟩; subst hw'; clear r4)
  exact bodyPost_ret (v:=.tuple #[.int .u64 (a2.toNat:Int),.int .u64 (b2.toNat:Int),.int .u64 (c2.toNat:Int),.int .u64 (d2.toNat:Int)]) (by simp [results,Tryd.results79]) rfl ⟨rfl,rfl⟩
end Go.Proofs.YtfbmeclpcgdmhabDoor
namespace Go.Proofs.YtfbmeclpcgdmhabDoor
open Go.RowKit
def But (c:Nat) (w w':World):Prop:=w.grownBy w' (some c)
theorem But.refl (c:Nat) (w:World):But c w w:=⟨rfl,rfl,rfl,Nat.le_refl _,fun _ _ _=>rfl⟩
theorem But.trans {c:Nat} {a b d:World} (h:But c a b) (k:But c b d):But c a d:=
  ⟨k.os.trans h.os,k.tape.trans h.tape,k.output.trans h.output,Nat.le_trans h.size k.size,fun i hi hn=>(k.block i (Nat.lt_of_lt_of_le hi h.size) hn).trans (h.block i hi hn)⟩
theorem But.of_ext {c:Nat} {w w':World} (h:Ext w w'):But c w w':=⟨Below.os h,Below.tape h,Below.output h,Below.size h,fun i hi _=>Below.block h i hi⟩
theorem But.drew {c:Nat} {w w':World} (h:But c w w'):But c w w'.drew:=h.trans (But.of_ext (Ext.refl w').draw)
theorem But.ext {c:Nat} {w X Y:World} (h:But c w X) (k:Ext X Y):But c w Y:=h.trans (But.of_ext k)
theorem but_setCell (w:World) (c i:Nat) (v:Value):But c w (w.setCell ⟨c,i,none⟩ v):=by
  have h:=(Below.refl 0 w).setCell (p:=⟨c,i,none⟩) (Nat.zero_le _) v
  refine ⟨h.os,h.tape,h.output,h.size,fun k hk hn=>?_⟩
  have h2:∀ B,B ≤ c → Below B w (w.setCell ⟨c,i,none⟩ v):=fun B hB=>(Below.refl B w).setCell (p:=⟨c,i,none⟩) hB v
  by_cases hkc:k < c
  · exact (h2 c (Nat.le_refl _)).block k hkc
  · have hne:k ≠ c:=fun e=>hn (by rw [e])
    simp only [World.setCell]
    rw [Array.getElem?_modify]
    simp [Ne.symm hne]
theorem But.set {c:Nat} {w X:World} (h:But c w X) (i:Nat) (v:Value):But c w (X.setCell ⟨c,i,none⟩ v):=h.trans (but_setCell X c i v)
theorem But.sets {c:Nat} {w:World}:∀ (vs:List Value) (o:Nat) (X:World),But c w X → But c w (X.setCells c o vs)
  | [],_,_,h=>h
  | v :: r,o,X,h=>by rw [World.setCells]; exact But.sets r (o + 1) _ (h.set o v)
theorem RowAt.but {b n c:Nat} {g:Nat → Value} {w w':World} (h:RowAt b n g w) (k:But c w w') (hne:b ≠ c):RowAt b n g w':=
  ⟨fun j hj=>(World.cell?_of_block (a:=⟨b,j,none⟩) (k.block b h.2.2 (by simpa using hne))).trans (h.1 j hj),fun j hj=>(World.frozen?_of_block (a:=⟨b,j,none⟩) (k.block b h.2.2 (by simpa using hne))).trans (h.2.1 j hj),Nat.lt_of_lt_of_le h.2.2 k.size⟩
theorem But.below {B c:Nat} {w w':World} (h:But c w w') (hc:B ≤ c) (hB:B ≤ w.heap.size):Below B w w':=
  ⟨h.os,h.tape,h.output,h.size,fun k hk=>h.block k (by omega) (by simp; omega)⟩
theorem Ext.but {c:Nat} {w X Y:World} (h:Ext w X) (k:But c X Y) (hc:w.heap.size ≤ c):Ext w Y:=Below.trans h (k.below hc (Below.size h))
theorem Below.but {B c:Nat} {w X Y:World} (h:Below B w X) (k:But c X Y) (hc:B ≤ c) (hB:B ≤ X.heap.size):Below B w Y:=Below.trans h (k.below hc hB)
theorem But.cell {c:Nat} {w w':World} (h:But c w w') (a:Addr) (hl:a.block < w.heap.size) (hne:a.block ≠ c):w'.cell? a = w.cell? a:=World.cell?_of_block (h.block a.block hl (by simpa using hne))
theorem But.frozen {c:Nat} {w w':World} (h:But c w w') (a:Addr) (hl:a.block < w.heap.size) (hne:a.block ≠ c):w'.frozen? a = w.frozen? a:=World.frozen?_of_block (h.block a.block hl (by simpa using hne))
end Go.Proofs.YtfbmeclpcgdmhabDoor
