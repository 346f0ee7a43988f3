/-
  Turns and memories. The window of a page.
-/
import Derived.Test.YtfbmeclpcgdmhabDoorQk1
import Derived.Test.YtfbmeclpcgdmhabDoorQk25
import Derived.Test.YtfbmeclpcgdmhabDoorQk28
import Derived.Test.YtfbmeclpcgdmhabDoorQk22
namespace Go.Proofs.YtfbmeclpcgdmhabDoor
open Go.RowKit Go.BigFrame
set_option linter.unusedVariables false
set_option maxRecDepth 20000 in
set_option maxHeartbeats 4000000 in
theorem plus_any (x y:Nat → BitVec 64) (w:World):
    Calls Tryd.prog 52 #[.agg (row 128 (wv x)).toArray,.agg (row 128 (wv y)).toArray] w fun e w'=>e = .returned (.agg (row 128 (wv (xrF x y))).toArray) ∧ Ext w w':=by
  obtain ⟨G,hG⟩:∃ G,G = xrF x y:=⟨_,rfl⟩
  rw [← hG]
  replace hG:=hideit hG
  have A1:=hideit (RowAt.new w 128 (wv x) 24)
  have X1:Ext w (w.alloc (.cells (row 128 (wv x)).toArray 24)):=(Below.refl _ _).alloc (Nat.le_refl _) _
  go_enter Tryd.func52,Tryd.ntmps52
  go_upto_region 0 with (fail)
  refine wp_region_lit ?_
  refine wpList_to rfl (.pointer (some ⟨w.heap.size,0,none⟩)) (w.alloc (.cells (row 128 (wv x)).toArray 24)) (by simp [go_sem]) ?_
  simp only [jk,jq,jv,jy]
  generalize w.alloc (.cells (row 128 (wv x)).toArray 24) = w1 at *
  obtain ⟨b,hb⟩:∃ b,b = w.heap.size:=⟨_,rfl⟩
  have hwb:Hid (w.heap.size ≤ b):=hideit (by omega)
  rw [← hb] at A1 ⊢
  clear hb
  have B2:=hideit (RowAt.new w1 128 (wv y) 24)
  have X2:Ext w1 (w1.alloc (.cells (row 128 (wv y)).toArray 24)):=(Below.refl _ _).alloc (Nat.le_refl _) _
  have A2:=hideit (A1.out.carry X2)
  have hE2:=hideit (Ext.trans X1 X2)
  have hbc:Hid (b < w1.heap.size):=hideit A1.out.2.2
  clear A1 X1 X2
  refine wpList_to rfl (.pointer (some ⟨w1.heap.size,0,none⟩)) (w1.alloc (.cells (row 128 (wv y)).toArray 24)) (by simp [go_sem]) ?_
  simp only [jk,jq,jv,jy]
  generalize w1.alloc (.cells (row 128 (wv y)).toArray 24) = w2 at *
  generalize w1.heap.size = c at *
  have R3:=hideit (RowAt.new w2 128 (wv fun _=>0#64) 24)
  have X3:Ext w2 (w2.alloc (.cells (row 128 (wv fun _=>0#64)).toArray 24)):=(Below.refl _ _).alloc (Nat.le_refl _) _
  have A3:=hideit (A2.out.carry X3)
  have B3:=hideit (B2.out.carry X3)
  have hE3:=hideit (Ext.trans hE2.out X3)
  have hbd:Hid (b < w2.heap.size):=hideit A2.out.2.2
  clear A2 B2 hE2 X3
  refine wpList_to rfl (.pointer (some ⟨w2.heap.size,0,none⟩)) (w2.alloc (.cells (row 128 (wv fun _=>0#64)).toArray 24)) (exec_allocP 24 _ rfl (zero31p _)) ?_
  simp only [jk,jq,jv,jy]
  generalize w2.alloc (.cells (row 128 (wv fun _=>0#64)).toArray 24) = w3 at *
  generalize w2.heap.size = d at *
  go_upto_region 1 with (fail)
  refine wp_region_lit ?_
  refine wpList_load_mid rfl 24 (.tmp 3) rfl c 0 rfl (row 128 (wv y)) _ B3.out.range Tryd.underlying24 rfl (by rw [row_length]; exact infoPg) ?_
  simp only [jk,jq,jv,jy]
  obtain ⟨TB,hTB⟩:∃ TB,TB = (Value.agg (row 128 (wv y)).toArray):=⟨_,rfl⟩
  have hidx:Hid (∀ k:Nat,k < 128 → ∀ X:World,(Instr.index 24 TB (.int .i64 (k:Int))).run Tryd.prog X = .ok (.int .u64 ((y k).toNat:Int)) X):=hideit fun k hk X=>by rw [hTB]; exact idxPg y k hk X
  rw [← hTB]
  clear hTB B3
  go_wp2
  go_loopw [8] (fun i X=>∃ k:Nat,k ≤ 128 ∧ i = .int .i64 k ∧ RowAt b 128 (wv (upX x y k)) X ∧ RowAt d 128 (wv fun _=>0#64) X ∧ Ext w X) (fun i _=>128 - (intOf i).toNat)
  case atStart=>exact ⟨0,by omega,rfl,A3.out.congr (fun j _=>by simp only [wv,upX]; rw [if_neg (Nat.not_lt_zero _)]),R3.out,hE3.out⟩
  case round=>
    clear A3 R3 hE3
    obtain ⟨k,hk,rfl,hA,hR,hE⟩:=hrel
    have A4:=hideit hA
    have R4:=hideit hR
    have hE4:=hideit hE
    clear hA hR hE
    by_cases hlt:k < 128
    · have i0:(0:Int) ≤ (k:Int):=by omega
      have i1:(k:Int) < 128:=by omega
      have hix:=hidx.out k hlt
      have e1:wr.cell? ⟨b,k,none⟩ = some (.int .u64 ((x k).toNat:Int)):=(A4.out.1 k hlt).trans (by simp only [wv,upX]; rw [if_neg (Nat.lt_irrefl _)])
      have g1:wr.frozen? ⟨b,k,none⟩ = false:=A4.out.2.1 k hlt
      have f1:=xW_fact (x k) (y k)
      go_wp2
      exact ⟨⟨k + 1,by omega,by go_num,(A4.out.set k (.int .u64 ((xW (x k) (y k)).toNat:Int))).congr (fun j _=>by
        simp only [wv,upX]
        by_cases h1:j = k
        · rw [if_pos h1,if_pos (by omega),h1]
        · rw [if_neg h1]
          by_cases h2:j < k
          · rw [if_pos h2,if_pos (by omega)]
          · rw [if_neg h2,if_neg (by omega)]),R4.out.other _ _ (by show b ≠ d; have:=hbd.out; omega),Below.setCell hE4.out (by show w.heap.size ≤ b; exact hwb.out) _⟩,by simp [intOf]; omega⟩
    · obtain rfl:k = 128:=by omega
      have A5:Hid (RowAt b 128 (wv G) wr):=hideit (A4.out.congr fun j hj=>by rw [hG.out]; simp only [wv,upX,xrF]; rw [if_pos hj])
      clear A4 hG
      have i1:¬ ((128:Nat):Int) < 128:=by decide
      go_upto_region 6 with (fail)
      refine wp_region_lit ?_
      refine wpList_load_mid rfl 24 (.tmp 2) rfl b 0 rfl (row 128 (wv G)) _ A5.out.range Tryd.underlying24 rfl (by rw [row_length]; exact infoPg) ?_
      simp only [jk,jq,jv,jy]
      refine wpList_store_mid rfl 24 (.tmp 4) (.tmp 19) rfl d 0 (row 128 (wv G)).toArray rfl rfl (by rw [row_size]; exact R4.out.there) (by rw [row_size]; exact infoPg) (row_one fun _ _=>rfl) ?_
      rw [show (row 128 (wv G)).toArray.toList = row 128 (wv G) from rfl]
      have h9:=hideit (R4.out.cells (g':=wv G))
      have hE9:=hideit (below_setCells d (by have:=hwb.out; have:=hbd.out; omega) (row 128 (wv G)) 0 _ hE4.out)
      generalize wr.setCells d 0 (row 128 (wv G)) = w9 at *
      clear A5 R4 hE4
      simp only [Act.put]
      go_wp2
      exact bodyPost_ret (ret_row Tryd.results25 rfl h9.out Tryd.underlying24 rfl infoPg) rfl ⟨rfl,hE9.out⟩
def tuV (ps sl ln:Nat):Nat → Value:=fun j=>if j = 0 then .int .i64 (ps:Int) else if j = 1 then .int .i64 (sl:Int) else .int .i64 (ln:Int)
def mmV (T M L s lb lc:Nat):Nat → Value:=fun j=>if j = 0 then .int .i64 (T:Int) else if j = 1 then .int .i64 (M:Int) else if j = 2 then .int .i64 (L:Int) else if j = 3 then .int .i64 (s:Int) else .slice (some ⟨lb,0,none⟩) L lc
theorem infoTu:(Tryd.prog.info? 58).map (·.size) = some 3:=by kernel_rfl
structure Mm (B p T M L s lb lc:Nat) (bk:Nat → Nat) (Mw:Nat → BitVec 64) (X:World):Prop where
  rc:RowAt p 5 (mmV T M L s lb lc) X
  ln:RowAt lb L (fun l=>.slice (some ⟨bk l,0,none⟩) (4 * s) (4 * s)) X
  pg:∀ l,l < L → RowAt (bk l) (128 * (4 * s)) (wv fun j=>Mw (128 * (4 * s * l) + j)) X
  dj:∀ l,l < L → bk l ≠ p ∧ bk l ≠ lb ∧ B ≤ bk l ∧ ∀ l',l' < L → bk l = bk l' → l = l'
section
variable {B p T M L s lb lc:Nat} {bk:Nat → Nat} {Mw:Nat → BitVec 64} {X Y:World}
theorem Mm.ext (h:Mm B p T M L s lb lc bk Mw X) (k:Ext X Y):Mm B p T M L s lb lc bk Mw Y:=⟨h.rc.carry k,h.ln.carry k,fun l hl=>(h.pg l hl).carry k,h.dj⟩
theorem Mm.range (h:Mm B p T M L s lb lc bk Mw X) (l:Nat) (hl:l < L) (i:Nat) (hi:i < 4 * s):X.rangeAt (bk l) (i * 128) (row 128 (wv (pgA Mw (4 * s * l + i)))):=
  (h.pg l hl).sub (i * 128) 128 (by omega) _ fun j hj=>by
    unfold wv pgA
    dsimp only
    rw [show 128 * (4 * s * l) + (i * 128 + j) = 128 * (4 * s * l + i) + j by omega]
theorem lane_apart {s l l' i j:Nat} (hl:l ≠ l') (hj:j < 128 * (4 * s)) (hi:i < 4 * s):¬ (128 * (4 * s * l + i) ≤ 128 * (4 * s * l') + j ∧ 128 * (4 * s * l') + j < 128 * (4 * s * l + i) + 128):=by
  intro h
  rcases Nat.lt_or_ge l l' with q | q
  · have:4 * s * l + 4 * s ≤ 4 * s * l':=by rw [← Nat.mul_succ]; exact Nat.mul_le_mul_left _ q
    omega
  · have:4 * s * l' + 4 * s ≤ 4 * s * l:=by rw [← Nat.mul_succ]; exact Nat.mul_le_mul_left _ (by omega)
    omega
theorem Mm.set (h:Mm B p T M L s lb lc bk Mw X) (l:Nat) (hl:l < L) (i:Nat) (hi:i < 4 * s) (y:Nat → BitVec 64):Mm B p T M L s lb lc bk (upA Mw (4 * s * l + i) y) (X.setCells (bk l) (i * 128) (row 128 (wv y))):=by
  obtain ⟨d1,d2,d3,d4⟩:=h.dj l hl
  refine ⟨h.rc.cellsOther d1 _ _,h.ln.cellsOther d2 _ _,fun l' hl'=>?_,h.dj⟩
  by_cases e:l' = l
  · subst e
    refine ((h.pg l' hl').part (i * 128) 128 (wv y) (by omega)).congr fun j hj=>?_
    unfold wv upA
    dsimp only
    by_cases c:i * 128 ≤ j ∧ j < i * 128 + 128
    · rw [if_pos c,if_pos (by omega),show 128 * (4 * s * l') + j - 128 * (4 * s * l' + i) = j - i * 128 by omega]
    · rw [if_neg c,if_neg (by omega)]
  · refine ((h.pg l' hl').cellsOther (fun q=>e (d4 l' hl' q).symm) _ _).congr fun j hj=>?_
    unfold wv upA
    dsimp only
    rw [if_neg (lane_apart (Ne.symm e) hj hi)]
end
set_option maxRecDepth 20000 in
set_option maxHeartbeats 4000000 in
theorem adr_yy (ps sl ln:Nat) (w:World) (a1:ps = 0) (a2':sl < 2):Calls Tryd.prog 51 #[.agg (row 3 (tuV ps sl ln)).toArray] w fun e w'=>e = .returned (.bool true) ∧ Ext w w':=by
  replace a1:=hideit a1
  have a2:(sl:Int) < 2:=by omega
  replace a2:=hideit a2
  obtain ⟨c,w1,hw,hc,H0,hE⟩:=boxes1 w 3 (tuV ps sl ln) 58
  go_enter Tryd.func51,Tryd.ntmps51
  go_upto_region 1 with (fail)
  rw [← hw.out,← hc.out]
  clear hw hc
  refine wp_region_lit ?_
  have m1:w1.cell? ⟨c,0,none⟩ = some (.int .i64 (ps:Int)):=H0.out.1 0 (by decide)
  have m2:w1.cell? ⟨c,1,none⟩ = some (.int .i64 (sl:Int)):=H0.out.1 1 (by decide)
  refine xm [some (.pointer (some ⟨c,0,none⟩)),some (.int .i64 (ps:Int)),some (.bool true),some (.bool true),some (.pointer (some ⟨c,1,none⟩)),some (.int .i64 (sl:Int)),some (.bool true),some (.bool true),some (.bool true)] (by kernel_rfl) (by simp [xr,go_sem,m1,a1.out,m2,a2.out]) ?_
  simp only [xw,p0,p1,p2,p3]
  clear m1
  clear m2
  go_wp2
  go_ret
  exact ⟨rfl,hE.out⟩
set_option maxRecDepth 20000 in
set_option maxHeartbeats 4000000 in
theorem adr_yn (ps sl ln:Nat) (w:World) (a1:ps = 0) (a2':¬ sl < 2):Calls Tryd.prog 51 #[.agg (row 3 (tuV ps sl ln)).toArray] w fun e w'=>e = .returned (.bool false) ∧ Ext w w':=by
  replace a1:=hideit a1
  have a2:¬ (sl:Int) < 2:=by omega
  replace a2:=hideit a2
  obtain ⟨c,w1,hw,hc,H0,hE⟩:=boxes1 w 3 (tuV ps sl ln) 58
  go_enter Tryd.func51,Tryd.ntmps51
  go_upto_region 1 with (fail)
  rw [← hw.out,← hc.out]
  clear hw hc
  refine wp_region_lit ?_
  have m1:w1.cell? ⟨c,0,none⟩ = some (.int .i64 (ps:Int)):=H0.out.1 0 (by decide)
  have m2:w1.cell? ⟨c,1,none⟩ = some (.int .i64 (sl:Int)):=H0.out.1 1 (by decide)
  refine xm [some (.pointer (some ⟨c,0,none⟩)),some (.int .i64 (ps:Int)),some (.bool true),some (.bool true),some (.pointer (some ⟨c,1,none⟩)),some (.int .i64 (sl:Int)),some (.bool false),some (.bool false),some (.bool false)] (by kernel_rfl) (by simp [xr,go_sem,m1,a1.out,m2,a2.out]) ?_
  simp only [xw,p0,p1,p2,p3]
  clear m1
  clear m2
  go_wp2
  go_ret
  exact ⟨rfl,hE.out⟩
set_option maxRecDepth 20000 in
set_option maxHeartbeats 4000000 in
theorem adr_n (ps sl ln:Nat) (w:World) (a1:¬ ps = 0):Calls Tryd.prog 51 #[.agg (row 3 (tuV ps sl ln)).toArray] w fun e w'=>e = .returned (.bool false) ∧ Ext w w':=by
  replace a1:=hideit a1
  obtain ⟨c,w1,hw,hc,H0,hE⟩:=boxes1 w 3 (tuV ps sl ln) 58
  go_enter Tryd.func51,Tryd.ntmps51
  go_upto_region 1 with (fail)
  rw [← hw.out,← hc.out]
  clear hw hc
  refine wp_region_lit ?_
  have m1:w1.cell? ⟨c,0,none⟩ = some (.int .i64 (ps:Int)):=H0.out.1 0 (by decide)
  refine xm [some (.pointer (some ⟨c,0,none⟩)),some (.int .i64 (ps:Int)),some (.bool false),some (.bool false),none,none,none,some (.bool false),some (.bool false)] (by kernel_rfl) (by simp [xr,go_sem,m1,a1.out]) ?_
  simp only [xw,p0,p1,p2,p3]
  clear m1
  go_wp2
  go_ret
  exact ⟨rfl,hE.out⟩
theorem adr_any (ps sl ln:Nat) (w:World) (R:Bool) (hR:R = decide (ps = 0 ∧ sl < 2)):Calls Tryd.prog 51 #[.agg (row 3 (tuV ps sl ln)).toArray] w fun e w'=>e = .returned (.bool R) ∧ Ext w w':=by
  subst hR
  by_cases a1:ps = 0
  · by_cases a2:sl < 2
    · rw [decide_eq_true ⟨a1,a2⟩]; exact adr_yy ps sl ln w a1 a2
    · rw [decide_eq_false fun h=>a2 h.2]; exact adr_yn ps sl ln w a1 a2
  · rw [decide_eq_false fun h=>a1 h.1]; exact adr_n ps sl ln w a1
end Go.Proofs.YtfbmeclpcgdmhabDoor
namespace Go.Proofs.YtfbmeclpcgdmhabDoor
open Go.RowKit Go.BigFrame
set_option linter.unusedVariables false
set_option maxRecDepth 20000 in
set_option maxHeartbeats 4000000 in
theorem win_y_same (B p T M L s lb lc:Nat) (bk:Nat → Nat) (Mw:Nat → BitVec 64) (ps sl ln k l a b g q cn:Nat) (d:Int) (w:World) (hM:Mm B p T M L s lb lc bk Mw w) (a1:ps = 0) (a2:l = ln) (z1:Hid (IntKind.i64.wrap ((sl:Int) * (s:Int)) = (q:Int))) (z3:Hid (IntKind.i64.wrap ((k:Int) - 1) = d)) (z4:Hid (IntKind.i64.wrap ((q:Int) + d) = (cn:Int))):Calls Tryd.prog 64 #[.pointer (some ⟨p,0,none⟩),.agg (row 3 (tuV ps sl ln)).toArray,.int .i64 (k:Int),.int .i64 (l:Int)] w fun e w'=>e = .returned (.tuple #[.int .i64 0,.int .i64 (cn:Int)]) ∧ Ext w w':=by
  replace a1:=hideit a1
  replace a2:=hideit a2
  obtain ⟨c,w1,hw,hc,H0,hE⟩:=boxes1 w 3 (tuV ps sl ln) 58
  have H2:=hideit (hM.rc.carry hE.out)
  go_enter Tryd.func64,Tryd.ntmps64
  go_upto_region 1 with (fail)
  rw [← hw.out,← hc.out]
  clear hw hc hM
  refine wp_region_lit ?_
  have m1:w1.cell? ⟨c,0,none⟩ = some (.int .i64 (ps:Int)):=H0.out.1 0 (by decide)
  refine xm [some (.pointer (some ⟨c,0,none⟩)),some (.int .i64 (ps:Int)),some (.bool true)] (by kernel_rfl) (by simp [xr,go_sem,m1,a1.out]) ?_
  simp only [xw,p0,p1,p2,p3]
  clear m1
  go_upto_region 2 with (fail)
  replace H0:=hideit H0.out.drew
  replace H2:=hideit H2.out.drew
  replace hE:=hideit (Ext.draw hE.out)
  refine wp_region_lad (fun X=>Ext w1.drew X) [(false,0),(false,1),(false,2),(false,3),(false,4),(false,5),(false,6),(false,7)] (by kernel_rfl) (by kernel_rfl) (by decide +kernel) (by decide +kernel) (by decide +kernel) (by decide +kernel) (Ext.refl _) ?_
  refine wpX_f _ (.pointer (some ⟨c,1,none⟩)) rfl rfl (fun X _=>by simp [go_sem]) ?_
  simp only [List.getElem_toArray,List.getElem_cons_zero,Act.put,List.setIfInBounds_toArray,List.set_cons_zero,List.set_cons_succ]
  refine wpX_f _ (.int .i64 (sl:Int)) rfl rfl (fun X hX=>by have m2:X.cell? ⟨c,1,none⟩ = some (.int .i64 (sl:Int)):=(H0.out.carry hX).1 1 (by decide); simp [go_sem,m2]) ?_
  simp only [jw,jz,kj,jk,jq,jv,jy]
  refine wpX_f _ (.pointer (some ⟨p,0,none⟩)) rfl rfl (fun X _=>by simp [go_sem]) ?_
  simp only [jw,jz,kj,jk,jq,jv,jy]
  refine wpX_f _ (.pointer (some ⟨p,0,none⟩)) rfl rfl (fun X _=>by simp [go_sem]) ?_
  simp only [jw,jz,kj,jk,jq,jv,jy]
  refine wpX_f _ (.pointer (some ⟨p,3,none⟩)) rfl rfl (fun X _=>by simp [go_sem]) ?_
  simp only [jw,jz,kj,jk,jq,jv,jy]
  refine wpX_f _ (.int .i64 (s:Int)) rfl rfl (fun X hX=>by have m3:X.cell? ⟨p,3,none⟩ = some (.int .i64 (s:Int)):=(H2.out.carry hX).1 3 (by decide); simp [go_sem,m3]) ?_
  simp only [jw,jz,kj,jk,jq,jv,jy]
  refine wpX_f _ (.int .i64 (q:Int)) rfl rfl (fun X _=>by simp [go_sem,z1.out]) ?_
  simp only [jw,jz,kj,jk,jq,jv,jy]
  refine wpX_f _ (.int .i64 (q:Int)) rfl rfl (fun X _=>by simp [go_sem]) ?_
  simp only [jw,jz,kj,jk,jq,jv,jy]
  refine wpX_nil ?_
  go_upto_region 5 with (fail)
  refine wp_region_lit ?_
  have m4:w1.drew.cell? ⟨c,2,none⟩ = some (.int .i64 (ln:Int)):=H0.out.1 2 (by decide)
  refine xm [some (.int .i64 (l:Int)),some (.pointer (some ⟨c,2,none⟩)),some (.int .i64 (ln:Int)),some (.bool true),some (.bool true)] (by kernel_rfl) (by simp [xr,go_sem,m4,a2.out]) ?_
  simp only [xw,p0,p1,p2,p3]
  clear m4
  go_upto_region 6 with (fail)
  refine wp_region_lit ?_
  refine xm [some (.int .i64 (q:Int)),some (.int .i64 (k:Int)),some (.int .i64 (d)),some (.int .i64 (cn:Int)),some (.int .i64 (cn:Int))] (by kernel_rfl) (by simp [xr,go_sem,z3.out,z4.out]) ?_
  simp only [xw,p0,p1,p2,p3]
  go_upto_region 9 with (fail)
  refine wp_region_lit ?_
  refine xm [some (.int .i64 0),some (.int .i64 (cn:Int)),some (.int .i64 0),some (.int .i64 (cn:Int))] (by kernel_rfl) (by simp [xr,go_sem]) ?_
  simp only [xw,p0,p1,p2,p3]
  go_wp2
  refine bodyPost_ret (res2 rfl _ _ _) rfl ?_
  exact ⟨rfl,hE.out⟩
set_option maxRecDepth 20000 in
set_option maxHeartbeats 4000000 in
theorem win_y_zero (B p T M L s lb lc:Nat) (bk:Nat → Nat) (Mw:Nat → BitVec 64) (ps sl ln k l a b g q cn:Nat) (d:Int) (w:World) (hM:Mm B p T M L s lb lc bk Mw w) (a1:ps = 0) (a2:¬ l = ln) (a3:k = 0) (z1:Hid (IntKind.i64.wrap ((sl:Int) * (s:Int)) = (q:Int))) (z4:Hid (IntKind.i64.wrap ((q:Int) - 1) = (cn:Int))):Calls Tryd.prog 64 #[.pointer (some ⟨p,0,none⟩),.agg (row 3 (tuV ps sl ln)).toArray,.int .i64 (k:Int),.int .i64 (l:Int)] w fun e w'=>e = .returned (.tuple #[.int .i64 0,.int .i64 (cn:Int)]) ∧ Ext w w':=by
  replace a1:=hideit a1
  replace a2:Hid (¬ (l:Int) = (ln:Int)):=hideit (by omega)
  replace a3:=hideit a3
  obtain ⟨c,w1,hw,hc,H0,hE⟩:=boxes1 w 3 (tuV ps sl ln) 58
  have H2:=hideit (hM.rc.carry hE.out)
  go_enter Tryd.func64,Tryd.ntmps64
  go_upto_region 1 with (fail)
  rw [← hw.out,← hc.out]
  clear hw hc hM
  refine wp_region_lit ?_
  have m1:w1.cell? ⟨c,0,none⟩ = some (.int .i64 (ps:Int)):=H0.out.1 0 (by decide)
  refine xm [some (.pointer (some ⟨c,0,none⟩)),some (.int .i64 (ps:Int)),some (.bool true)] (by kernel_rfl) (by simp [xr,go_sem,m1,a1.out]) ?_
  simp only [xw,p0,p1,p2,p3]
  clear m1
  go_upto_region 2 with (fail)
  replace H0:=hideit H0.out.drew
  replace H2:=hideit H2.out.drew
  replace hE:=hideit (Ext.draw hE.out)
  refine wp_region_lad (fun X=>Ext w1.drew X) [(false,0),(false,1),(false,2),(false,3),(false,4),(false,5),(false,6),(false,7)] (by kernel_rfl) (by kernel_rfl) (by decide +kernel) (by decide +kernel) (by decide +kernel) (by decide +kernel) (Ext.refl _) ?_
  refine wpX_f _ (.pointer (some ⟨c,1,none⟩)) rfl rfl (fun X _=>by simp [go_sem]) ?_
  simp only [List.getElem_toArray,List.getElem_cons_zero,Act.put,List.setIfInBounds_toArray,List.set_cons_zero,List.set_cons_succ]
  refine wpX_f _ (.int .i64 (sl:Int)) rfl rfl (fun X hX=>by have m2:X.cell? ⟨c,1,none⟩ = some (.int .i64 (sl:Int)):=(H0.out.carry hX).1 1 (by decide); simp [go_sem,m2]) ?_
  simp only [jw,jz,kj,jk,jq,jv,jy]
  refine wpX_f _ (.pointer (some ⟨p,0,none⟩)) rfl rfl (fun X _=>by simp [go_sem]) ?_
  simp only [jw,jz,kj,jk,jq,jv,jy]
  refine wpX_f _ (.pointer (some ⟨p,0,none⟩)) rfl rfl (fun X _=>by simp [go_sem]) ?_
  simp only [jw,jz,kj,jk,jq,jv,jy]
  refine wpX_f _ (.pointer (some ⟨p,3,none⟩)) rfl rfl (fun X _=>by simp [go_sem]) ?_
  simp only [jw,jz,kj,jk,jq,jv,jy]
  refine wpX_f _ (.int .i64 (s:Int)) rfl rfl (fun X hX=>by have m3:X.cell? ⟨p,3,none⟩ = some (.int .i64 (s:Int)):=(H2.out.carry hX).1 3 (by decide); simp [go_sem,m3]) ?_
  simp only [jw,jz,kj,jk,jq,jv,jy]
  refine wpX_f _ (.int .i64 (q:Int)) rfl rfl (fun X _=>by simp [go_sem,z1.out]) ?_
  simp only [jw,jz,kj,jk,jq,jv,jy]
  refine wpX_f _ (.int .i64 (q:Int)) rfl rfl (fun X _=>by simp [go_sem]) ?_
  simp only [jw,jz,kj,jk,jq,jv,jy]
  refine wpX_nil ?_
  go_upto_region 5 with (fail)
  refine wp_region_lit ?_
  have m4:w1.drew.cell? ⟨c,2,none⟩ = some (.int .i64 (ln:Int)):=H0.out.1 2 (by decide)
  refine xm [some (.int .i64 (l:Int)),some (.pointer (some ⟨c,2,none⟩)),some (.int .i64 (ln:Int)),some (.bool false),some (.bool false)] (by kernel_rfl) (by simp [xr,go_sem,m4,a2.out]) ?_
  simp only [xw,p0,p1,p2,p3]
  clear m4
  go_upto_region 7 with (fail)
  refine wp_region_lit ?_
  refine xm [some (.int .i64 (k:Int)),some (.bool true),some (.bool true)] (by kernel_rfl) (by simp [xr,go_sem,a3.out]) ?_
  simp only [xw,p0,p1,p2,p3]
  go_upto_region 8 with (fail)
  refine wp_region_lit ?_
  refine xm [some (.int .i64 (q:Int)),some (.int .i64 (cn:Int)),some (.int .i64 (cn:Int))] (by kernel_rfl) (by simp [xr,go_sem,z4.out]) ?_
  simp only [xw,p0,p1,p2,p3]
  go_upto_region 9 with (fail)
  refine wp_region_lit ?_
  refine xm [some (.int .i64 0),some (.int .i64 (cn:Int)),some (.int .i64 0),some (.int .i64 (cn:Int))] (by kernel_rfl) (by simp [xr,go_sem]) ?_
  simp only [xw,p0,p1,p2,p3]
  go_wp2
  refine bodyPost_ret (res2 rfl _ _ _) rfl ?_
  exact ⟨rfl,hE.out⟩
set_option maxRecDepth 20000 in
set_option maxHeartbeats 4000000 in
theorem win_y_else (B p T M L s lb lc:Nat) (bk:Nat → Nat) (Mw:Nat → BitVec 64) (ps sl ln k l a b g q cn:Nat) (d:Int) (w:World) (hM:Mm B p T M L s lb lc bk Mw w) (a1:ps = 0) (a2:¬ l = ln) (a3:¬ k = 0) (z1:Hid (IntKind.i64.wrap ((sl:Int) * (s:Int)) = (q:Int))):Calls Tryd.prog 64 #[.pointer (some ⟨p,0,none⟩),.agg (row 3 (tuV ps sl ln)).toArray,.int .i64 (k:Int),.int .i64 (l:Int)] w fun e w'=>e = .returned (.tuple #[.int .i64 0,.int .i64 (q:Int)]) ∧ Ext w w':=by
  replace a1:=hideit a1
  replace a2:Hid (¬ (l:Int) = (ln:Int)):=hideit (by omega)
  replace a3:=hideit a3
  obtain ⟨c,w1,hw,hc,H0,hE⟩:=boxes1 w 3 (tuV ps sl ln) 58
  have H2:=hideit (hM.rc.carry hE.out)
  go_enter Tryd.func64,Tryd.ntmps64
  go_upto_region 1 with (fail)
  rw [← hw.out,← hc.out]
  clear hw hc hM
  refine wp_region_lit ?_
  have m1:w1.cell? ⟨c,0,none⟩ = some (.int .i64 (ps:Int)):=H0.out.1 0 (by decide)
  refine xm [some (.pointer (some ⟨c,0,none⟩)),some (.int .i64 (ps:Int)),some (.bool true)] (by kernel_rfl) (by simp [xr,go_sem,m1,a1.out]) ?_
  simp only [xw,p0,p1,p2,p3]
  clear m1
  go_upto_region 2 with (fail)
  replace H0:=hideit H0.out.drew
  replace H2:=hideit H2.out.drew
  replace hE:=hideit (Ext.draw hE.out)
  refine wp_region_lad (fun X=>Ext w1.drew X) [(false,0),(false,1),(false,2),(false,3),(false,4),(false,5),(false,6),(false,7)] (by kernel_rfl) (by kernel_rfl) (by decide +kernel) (by decide +kernel) (by decide +kernel) (by decide +kernel) (Ext.refl _) ?_
  refine wpX_f _ (.pointer (some ⟨c,1,none⟩)) rfl rfl (fun X _=>by simp [go_sem]) ?_
  simp only [List.getElem_toArray,List.getElem_cons_zero,Act.put,List.setIfInBounds_toArray,List.set_cons_zero,List.set_cons_succ]
  refine wpX_f _ (.int .i64 (sl:Int)) rfl rfl (fun X hX=>by have m2:X.cell? ⟨c,1,none⟩ = some (.int .i64 (sl:Int)):=(H0.out.carry hX).1 1 (by decide); simp [go_sem,m2]) ?_
  simp only [jw,jz,kj,jk,jq,jv,jy]
  refine wpX_f _ (.pointer (some ⟨p,0,none⟩)) rfl rfl (fun X _=>by simp [go_sem]) ?_
  simp only [jw,jz,kj,jk,jq,jv,jy]
  refine wpX_f _ (.pointer (some ⟨p,0,none⟩)) rfl rfl (fun X _=>by simp [go_sem]) ?_
  simp only [jw,jz,kj,jk,jq,jv,jy]
  refine wpX_f _ (.pointer (some ⟨p,3,none⟩)) rfl rfl (fun X _=>by simp [go_sem]) ?_
  simp only [jw,jz,kj,jk,jq,jv,jy]
  refine wpX_f _ (.int .i64 (s:Int)) rfl rfl (fun X hX=>by have m3:X.cell? ⟨p,3,none⟩ = some (.int .i64 (s:Int)):=(H2.out.carry hX).1 3 (by decide); simp [go_sem,m3]) ?_
  simp only [jw,jz,kj,jk,jq,jv,jy]
  refine wpX_f _ (.int .i64 (q:Int)) rfl rfl (fun X _=>by simp [go_sem,z1.out]) ?_
  simp only [jw,jz,kj,jk,jq,jv,jy]
  refine wpX_f _ (.int .i64 (q:Int)) rfl rfl (fun X _=>by simp [go_sem]) ?_
  simp only [jw,jz,kj,jk,jq,jv,jy]
  refine wpX_nil ?_
  go_upto_region 5 with (fail)
  refine wp_region_lit ?_
  have m4:w1.drew.cell? ⟨c,2,none⟩ = some (.int .i64 (ln:Int)):=H0.out.1 2 (by decide)
  refine xm [some (.int .i64 (l:Int)),some (.pointer (some ⟨c,2,none⟩)),some (.int .i64 (ln:Int)),some (.bool false),some (.bool false)] (by kernel_rfl) (by simp [xr,go_sem,m4,a2.out]) ?_
  simp only [xw,p0,p1,p2,p3]
  clear m4
  go_upto_region 7 with (fail)
  refine wp_region_lit ?_
  refine xm [some (.int .i64 (k:Int)),some (.bool false),some (.bool false)] (by kernel_rfl) (by simp [xr,go_sem,a3.out]) ?_
  simp only [xw,p0,p1,p2,p3]
  go_upto_region 9 with (fail)
  refine wp_region_lit ?_
  refine xm [some (.int .i64 0),some (.int .i64 (q:Int)),some (.int .i64 0),some (.int .i64 (q:Int))] (by kernel_rfl) (by simp [xr,go_sem]) ?_
  simp only [xw,p0,p1,p2,p3]
  go_wp2
  refine bodyPost_ret (res2 rfl _ _ _) rfl ?_
  exact ⟨rfl,hE.out⟩
set_option maxRecDepth 20000 in
set_option maxHeartbeats 4000000 in
theorem win_n_same (B p T M L s lb lc:Nat) (bk:Nat → Nat) (Mw:Nat → BitVec 64) (ps sl ln k l a b g q cn:Nat) (d:Int) (w:World) (hM:Mm B p T M L s lb lc bk Mw w) (a1:¬ ps = 0) (a2:l = ln) (y1:Hid (IntKind.i64.wrap ((sl:Int) + 1) = (a:Int))) (y2:Hid ((a:Int).tmod 4 = (b:Int))) (y3:Hid (IntKind.i64.wrap ((b:Int) * (s:Int)) = (g:Int))) (z2:Hid (IntKind.i64.wrap (3 * (s:Int)) = (q:Int))) (z3:Hid (IntKind.i64.wrap ((k:Int) - 1) = d)) (z4:Hid (IntKind.i64.wrap ((q:Int) + d) = (cn:Int))):Calls Tryd.prog 64 #[.pointer (some ⟨p,0,none⟩),.agg (row 3 (tuV ps sl ln)).toArray,.int .i64 (k:Int),.int .i64 (l:Int)] w fun e w'=>e = .returned (.tuple #[.int .i64 (g:Int),.int .i64 (cn:Int)]) ∧ Ext w w':=by
  replace a1:=hideit a1
  replace a2:=hideit a2
  obtain ⟨c,w1,hw,hc,H0,hE⟩:=boxes1 w 3 (tuV ps sl ln) 58
  have H2:=hideit (hM.rc.carry hE.out)
  go_enter Tryd.func64,Tryd.ntmps64
  go_upto_region 1 with (fail)
  rw [← hw.out,← hc.out]
  clear hw hc hM
  refine wp_region_lit ?_
  have m1:w1.cell? ⟨c,0,none⟩ = some (.int .i64 (ps:Int)):=H0.out.1 0 (by decide)
  refine xm [some (.pointer (some ⟨c,0,none⟩)),some (.int .i64 (ps:Int)),some (.bool false)] (by kernel_rfl) (by simp [xr,go_sem,m1,a1.out]) ?_
  simp only [xw,p0,p1,p2,p3]
  clear m1
  go_upto_region 3 with (fail)
  replace H0:=hideit H0.out.drew
  replace H2:=hideit H2.out.drew
  replace hE:=hideit (Ext.draw hE.out)
  refine wp_region_lad (fun X=>Ext w1.drew X) [(false,0),(false,1),(false,2),(false,3),(false,4),(false,5),(false,6),(false,7),(false,8),(false,9)] (by kernel_rfl) (by kernel_rfl) (by decide +kernel) (by decide +kernel) (by decide +kernel) (by decide +kernel) (Ext.refl _) ?_
  refine wpX_f _ (.pointer (some ⟨c,1,none⟩)) rfl rfl (fun X _=>by simp [go_sem]) ?_
  simp only [List.getElem_toArray,List.getElem_cons_zero,Act.put,List.setIfInBounds_toArray,List.set_cons_zero,List.set_cons_succ]
  refine wpX_f _ (.int .i64 (sl:Int)) rfl rfl (fun X hX=>by have m2:X.cell? ⟨c,1,none⟩ = some (.int .i64 (sl:Int)):=(H0.out.carry hX).1 1 (by decide); simp [go_sem,m2]) ?_
  simp only [jw,jz,kj,jk,jq,jv,jy]
  refine wpX_f _ (.int .i64 (a:Int)) rfl rfl (fun X _=>by simp [go_sem,y1.out]) ?_
  simp only [jw,jz,kj,jk,jq,jv,jy]
  refine wpX_f _ (.int .i64 (b:Int)) rfl rfl (fun X _=>by simp [go_sem,y2.out]) ?_
  simp only [jw,jz,kj,jk,jq,jv,jy]
  refine wpX_f _ (.pointer (some ⟨p,0,none⟩)) rfl rfl (fun X _=>by simp [go_sem]) ?_
  simp only [jw,jz,kj,jk,jq,jv,jy]
  refine wpX_f _ (.pointer (some ⟨p,0,none⟩)) rfl rfl (fun X _=>by simp [go_sem]) ?_
  simp only [jw,jz,kj,jk,jq,jv,jy]
  refine wpX_f _ (.pointer (some ⟨p,3,none⟩)) rfl rfl (fun X _=>by simp [go_sem]) ?_
  simp only [jw,jz,kj,jk,jq,jv,jy]
  refine wpX_f _ (.int .i64 (s:Int)) rfl rfl (fun X hX=>by have m3:X.cell? ⟨p,3,none⟩ = some (.int .i64 (s:Int)):=(H2.out.carry hX).1 3 (by decide); simp [go_sem,m3]) ?_
  simp only [jw,jz,kj,jk,jq,jv,jy]
  refine wpX_f _ (.int .i64 (g:Int)) rfl rfl (fun X _=>by simp [go_sem,y3.out]) ?_
  simp only [jw,jz,kj,jk,jq,jv,jy]
  refine wpX_f _ (.int .i64 (g:Int)) rfl rfl (fun X _=>by simp [go_sem]) ?_
  simp only [jw,jz,kj,jk,jq,jv,jy]
  refine wpX_nil ?_
  go_upto_region 4 with (fail)
  refine wp_region_lit ?_
  have m4:w1.drew.cell? ⟨p,3,none⟩ = some (.int .i64 (s:Int)):=H2.out.1 3 (by decide)
  refine xm [some (.pointer (some ⟨p,0,none⟩)),some (.pointer (some ⟨p,0,none⟩)),some (.pointer (some ⟨p,3,none⟩)),some (.int .i64 (s:Int)),some (.int .i64 (q:Int)),some (.int .i64 (q:Int))] (by kernel_rfl) (by simp [xr,go_sem,m4,z2.out]) ?_
  simp only [xw,p0,p1,p2,p3]
  clear m4
  go_upto_region 5 with (fail)
  refine wp_region_lit ?_
  have m5:w1.drew.cell? ⟨c,2,none⟩ = some (.int .i64 (ln:Int)):=H0.out.1 2 (by decide)
  refine xm [some (.int .i64 (l:Int)),some (.pointer (some ⟨c,2,none⟩)),some (.int .i64 (ln:Int)),some (.bool true),some (.bool true)] (by kernel_rfl) (by simp [xr,go_sem,m5,a2.out]) ?_
  simp only [xw,p0,p1,p2,p3]
  clear m5
  go_upto_region 6 with (fail)
  refine wp_region_lit ?_
  refine xm [some (.int .i64 (q:Int)),some (.int .i64 (k:Int)),some (.int .i64 (d)),some (.int .i64 (cn:Int)),some (.int .i64 (cn:Int))] (by kernel_rfl) (by simp [xr,go_sem,z3.out,z4.out]) ?_
  simp only [xw,p0,p1,p2,p3]
  go_upto_region 9 with (fail)
  refine wp_region_lit ?_
  refine xm [some (.int .i64 (g:Int)),some (.int .i64 (cn:Int)),some (.int .i64 (g:Int)),some (.int .i64 (cn:Int))] (by kernel_rfl) (by simp [xr,go_sem]) ?_
  simp only [xw,p0,p1,p2,p3]
  go_wp2
  refine bodyPost_ret (res2 rfl _ _ _) rfl ?_
  exact ⟨rfl,hE.out⟩
set_option maxRecDepth 20000 in
set_option maxHeartbeats 4000000 in
theorem win_n_zero (B p T M L s lb lc:Nat) (bk:Nat → Nat) (Mw:Nat → BitVec 64) (ps sl ln k l a b g q cn:Nat) (d:Int) (w:World) (hM:Mm B p T M L s lb lc bk Mw w) (a1:¬ ps = 0) (a2:¬ l = ln) (a3:k = 0) (y1:Hid (IntKind.i64.wrap ((sl:Int) + 1) = (a:Int))) (y2:Hid ((a:Int).tmod 4 = (b:Int))) (y3:Hid (IntKind.i64.wrap ((b:Int) * (s:Int)) = (g:Int))) (z2:Hid (IntKind.i64.wrap (3 * (s:Int)) = (q:Int))) (z4:Hid (IntKind.i64.wrap ((q:Int) - 1) = (cn:Int))):Calls Tryd.prog 64 #[.pointer (some ⟨p,0,none⟩),.agg (row 3 (tuV ps sl ln)).toArray,.int .i64 (k:Int),.int .i64 (l:Int)] w fun e w'=>e = .returned (.tuple #[.int .i64 (g:Int),.int .i64 (cn:Int)]) ∧ Ext w w':=by
  replace a1:=hideit a1
  replace a2:Hid (¬ (l:Int) = (ln:Int)):=hideit (by omega)
  replace a3:=hideit a3
  obtain ⟨c,w1,hw,hc,H0,hE⟩:=boxes1 w 3 (tuV ps sl ln) 58
  have H2:=hideit (hM.rc.carry hE.out)
  go_enter Tryd.func64,Tryd.ntmps64
  go_upto_region 1 with (fail)
  rw [← hw.out,← hc.out]
  clear hw hc hM
  refine wp_region_lit ?_
  have m1:w1.cell? ⟨c,0,none⟩ = some (.int .i64 (ps:Int)):=H0.out.1 0 (by decide)
  refine xm [some (.pointer (some ⟨c,0,none⟩)),some (.int .i64 (ps:Int)),some (.bool false)] (by kernel_rfl) (by simp [xr,go_sem,m1,a1.out]) ?_
  simp only [xw,p0,p1,p2,p3]
  clear m1
  go_upto_region 3 with (fail)
  replace H0:=hideit H0.out.drew
  replace H2:=hideit H2.out.drew
  replace hE:=hideit (Ext.draw hE.out)
  refine wp_region_lad (fun X=>Ext w1.drew X) [(false,0),(false,1),(false,2),(false,3),(false,4),(false,5),(false,6),(false,7),(false,8),(false,9)] (by kernel_rfl) (by kernel_rfl) (by decide +kernel) (by decide +kernel) (by decide +kernel) (by decide +kernel) (Ext.refl _) ?_
  refine wpX_f _ (.pointer (some ⟨c,1,none⟩)) rfl rfl (fun X _=>by simp [go_sem]) ?_
  simp only [List.getElem_toArray,List.getElem_cons_zero,Act.put,List.setIfInBounds_toArray,List.set_cons_zero,List.set_cons_succ]
  refine wpX_f _ (.int .i64 (sl:Int)) rfl rfl (fun X hX=>by have m2:X.cell? ⟨c,1,none⟩ = some (.int .i64 (sl:Int)):=(H0.out.carry hX).1 1 (by decide); simp [go_sem,m2]) ?_
  simp only [jw,jz,kj,jk,jq,jv,jy]
  refine wpX_f _ (.int .i64 (a:Int)) rfl rfl (fun X _=>by simp [go_sem,y1.out]) ?_
  simp only [jw,jz,kj,jk,jq,jv,jy]
  refine wpX_f _ (.int .i64 (b:Int)) rfl rfl (fun X _=>by simp [go_sem,y2.out]) ?_
  simp only [jw,jz,kj,jk,jq,jv,jy]
  refine wpX_f _ (.pointer (some ⟨p,0,none⟩)) rfl rfl (fun X _=>by simp [go_sem]) ?_
  simp only [jw,jz,kj,jk,jq,jv,jy]
  refine wpX_f _ (.pointer (some ⟨p,0,none⟩)) rfl rfl (fun X _=>by simp [go_sem]) ?_
  simp only [jw,jz,kj,jk,jq,jv,jy]
  refine wpX_f _ (.pointer (some ⟨p,3,none⟩)) rfl rfl (fun X _=>by simp [go_sem]) ?_
  simp only [jw,jz,kj,jk,jq,jv,jy]
  refine wpX_f _ (.int .i64 (s:Int)) rfl rfl (fun X hX=>by have m3:X.cell? ⟨p,3,none⟩ = some (.int .i64 (s:Int)):=(H2.out.carry hX).1 3 (by decide); simp [go_sem,m3]) ?_
  simp only [jw,jz,kj,jk,jq,jv,jy]
  refine wpX_f _ (.int .i64 (g:Int)) rfl rfl (fun X _=>by simp [go_sem,y3.out]) ?_
  simp only [jw,jz,kj,jk,jq,jv,jy]
  refine wpX_f _ (.int .i64 (g:Int)) rfl rfl (fun X _=>by simp [go_sem]) ?_
  simp only [jw,jz,kj,jk,jq,jv,jy]
  refine wpX_nil ?_
  go_upto_region 4 with (fail)
  refine wp_region_lit ?_
  have m4:w1.drew.cell? ⟨p,3,none⟩ = some (.int .i64 (s:Int)):=H2.out.1 3 (by decide)
  refine xm [some (.pointer (some ⟨p,0,none⟩)),some (.pointer (some ⟨p,0,none⟩)),some (.pointer (some ⟨p,3,none⟩)),some (.int .i64 (s:Int)),some (.int .i64 (q:Int)),some (.int .i64 (q:Int))] (by kernel_rfl) (by simp [xr,go_sem,m4,z2.out]) ?_
  simp only [xw,p0,p1,p2,p3]
  clear m4
  go_upto_region 5 with (fail)
  refine wp_region_lit ?_
  have m5:w1.drew.cell? ⟨c,2,none⟩ = some (.int .i64 (ln:Int)):=H0.out.1 2 (by decide)
  refine xm [some (.int .i64 (l:Int)),some (.pointer (some ⟨c,2,none⟩)),some (.int .i64 (ln:Int)),some (.bool false),some (.bool false)] (by kernel_rfl) (by simp [xr,go_sem,m5,a2.out]) ?_
  simp only [xw,p0,p1,p2,p3]
  clear m5
  go_upto_region 7 with (fail)
  refine wp_region_lit ?_
  refine xm [some (.int .i64 (k:Int)),some (.bool true),some (.bool true)] (by kernel_rfl) (by simp [xr,go_sem,a3.out]) ?_
  simp only [xw,p0,p1,p2,p3]
  go_upto_region 8 with (fail)
  refine wp_region_lit ?_
  refine xm [some (.int .i64 (q:Int)),some (.int .i64 (cn:Int)),some (.int .i64 (cn:Int))] (by kernel_rfl) (by simp [xr,go_sem,z4.out]) ?_
  simp only [xw,p0,p1,p2,p3]
  go_upto_region 9 with (fail)
  refine wp_region_lit ?_
  refine xm [some (.int .i64 (g:Int)),some (.int .i64 (cn:Int)),some (.int .i64 (g:Int)),some (.int .i64 (cn:Int))] (by kernel_rfl) (by simp [xr,go_sem]) ?_
  simp only [xw,p0,p1,p2,p3]
  go_wp2
  refine bodyPost_ret (res2 rfl _ _ _) rfl ?_
  exact ⟨rfl,hE.out⟩
set_option maxRecDepth 20000 in
set_option maxHeartbeats 4000000 in
theorem win_n_else (B p T M L s lb lc:Nat) (bk:Nat → Nat) (Mw:Nat → BitVec 64) (ps sl ln k l a b g q cn:Nat) (d:Int) (w:World) (hM:Mm B p T M L s lb lc bk Mw w) (a1:¬ ps = 0) (a2:¬ l = ln) (a3:¬ k = 0) (y1:Hid (IntKind.i64.wrap ((sl:Int) + 1) = (a:Int))) (y2:Hid ((a:Int).tmod 4 = (b:Int))) (y3:Hid (IntKind.i64.wrap ((b:Int) * (s:Int)) = (g:Int))) (z2:Hid (IntKind.i64.wrap (3 * (s:Int)) = (q:Int))):Calls Tryd.prog 64 #[.pointer (some ⟨p,0,none⟩),.agg (row 3 (tuV ps sl ln)).toArray,.int .i64 (k:Int),.int .i64 (l:Int)] w fun e w'=>e = .returned (.tuple #[.int .i64 (g:Int),.int .i64 (q:Int)]) ∧ Ext w w':=by
  replace a1:=hideit a1
  replace a2:Hid (¬ (l:Int) = (ln:Int)):=hideit (by omega)
  replace a3:=hideit a3
  obtain ⟨c,w1,hw,hc,H0,hE⟩:=boxes1 w 3 (tuV ps sl ln) 58
  have H2:=hideit (hM.rc.carry hE.out)
  go_enter Tryd.func64,Tryd.ntmps64
  go_upto_region 1 with (fail)
  rw [← hw.out,← hc.out]
  clear hw hc hM
  refine wp_region_lit ?_
  have m1:w1.cell? ⟨c,0,none⟩ = some (.int .i64 (ps:Int)):=H0.out.1 0 (by decide)
  refine xm [some (.pointer (some ⟨c,0,none⟩)),some (.int .i64 (ps:Int)),some (.bool false)] (by kernel_rfl) (by simp [xr,go_sem,m1,a1.out]) ?_
  simp only [xw,p0,p1,p2,p3]
  clear m1
  go_upto_region 3 with (fail)
  replace H0:=hideit H0.out.drew
  replace H2:=hideit H2.out.drew
  replace hE:=hideit (Ext.draw hE.out)
  refine wp_region_lad (fun X=>Ext w1.drew X) [(false,0),(false,1),(false,2),(false,3),(false,4),(false,5),(false,6),(false,7),(false,8),(false,9)] (by kernel_rfl) (by kernel_rfl) (by decide +kernel) (by decide +kernel) (by decide +kernel) (by decide +kernel) (Ext.refl _) ?_
  refine wpX_f _ (.pointer (some ⟨c,1,none⟩)) rfl rfl (fun X _=>by simp [go_sem]) ?_
  simp only [List.getElem_toArray,List.getElem_cons_zero,Act.put,List.setIfInBounds_toArray,List.set_cons_zero,List.set_cons_succ]
  refine wpX_f _ (.int .i64 (sl:Int)) rfl rfl (fun X hX=>by have m2:X.cell? ⟨c,1,none⟩ = some (.int .i64 (sl:Int)):=(H0.out.carry hX).1 1 (by decide); simp [go_sem,m2]) ?_
  simp only [jw,jz,kj,jk,jq,jv,jy]
  refine wpX_f _ (.int .i64 (a:Int)) rfl rfl (fun X _=>by simp [go_sem,y1.out]) ?_
  simp only [jw,jz,kj,jk,jq,jv,jy]
  refine wpX_f _ (.int .i64 (b:Int)) rfl rfl (fun X _=>by simp [go_sem,y2.out]) ?_
  simp only [jw,jz,kj,jk,jq,jv,jy]
  refine wpX_f _ (.pointer (some ⟨p,0,none⟩)) rfl rfl (fun X _=>by simp [go_sem]) ?_
  simp only [jw,jz,kj,jk,jq,jv,jy]
  refine wpX_f _ (.pointer (some ⟨p,0,none⟩)) rfl rfl (fun X _=>by simp [go_sem]) ?_
  simp only [jw,jz,kj,jk,jq,jv,jy]
  refine wpX_f _ (.pointer (some ⟨p,3,none⟩)) rfl rfl (fun X _=>by simp [go_sem]) ?_
  simp only [jw,jz,kj,jk,jq,jv,jy]
  refine wpX_f _ (.int .i64 (s:Int)) rfl rfl (fun X hX=>by have m3:X.cell? ⟨p,3,none⟩ = some (.int .i64 (s:Int)):=(H2.out.carry hX).1 3 (by decide); simp [go_sem,m3]) ?_
  simp only [jw,jz,kj,jk,jq,jv,jy]
  refine wpX_f _ (.int .i64 (g:Int)) rfl rfl (fun X _=>by simp [go_sem,y3.out]) ?_
  simp only [jw,jz,kj,jk,jq,jv,jy]
  refine wpX_f _ (.int .i64 (g:Int)) rfl rfl (fun X _=>by simp [go_sem]) ?_
  simp only [jw,jz,kj,jk,jq,jv,jy]
  refine wpX_nil ?_
  go_upto_region 4 with (fail)
  refine wp_region_lit ?_
  have m4:w1.drew.cell? ⟨p,3,none⟩ = some (.int .i64 (s:Int)):=H2.out.1 3 (by decide)
  refine xm [some (.pointer (some ⟨p,0,none⟩)),some (.pointer (some ⟨p,0,none⟩)),some (.pointer (some ⟨p,3,none⟩)),some (.int .i64 (s:Int)),some (.int .i64 (q:Int)),some (.int .i64 (q:Int))] (by kernel_rfl) (by simp [xr,go_sem,m4,z2.out]) ?_
  simp only [xw,p0,p1,p2,p3]
  clear m4
  go_upto_region 5 with (fail)
  refine wp_region_lit ?_
  have m5:w1.drew.cell? ⟨c,2,none⟩ = some (.int .i64 (ln:Int)):=H0.out.1 2 (by decide)
  refine xm [some (.int .i64 (l:Int)),some (.pointer (some ⟨c,2,none⟩)),some (.int .i64 (ln:Int)),some (.bool false),some (.bool false)] (by kernel_rfl) (by simp [xr,go_sem,m5,a2.out]) ?_
  simp only [xw,p0,p1,p2,p3]
  clear m5
  go_upto_region 7 with (fail)
  refine wp_region_lit ?_
  refine xm [some (.int .i64 (k:Int)),some (.bool false),some (.bool false)] (by kernel_rfl) (by simp [xr,go_sem,a3.out]) ?_
  simp only [xw,p0,p1,p2,p3]
  go_upto_region 9 with (fail)
  refine wp_region_lit ?_
  refine xm [some (.int .i64 (g:Int)),some (.int .i64 (q:Int)),some (.int .i64 (g:Int)),some (.int .i64 (q:Int))] (by kernel_rfl) (by simp [xr,go_sem]) ?_
  simp only [xw,p0,p1,p2,p3]
  go_wp2
  refine bodyPost_ret (res2 rfl _ _ _) rfl ?_
  exact ⟨rfl,hE.out⟩
theorem win_any (B p T M L s lb lc:Nat) (bk:Nat → Nat) (Mw:Nat → BitVec 64) (ps sl ln k l:Nat) (w:World) (hM:Mm B p T M L s lb lc bk Mw w) (hs:2 ≤ s ∧ s ≤ 64) (hsl:sl < 4) (hk:k ≤ 64) (hc:1 ≤ cnA s ps sl ln k l):Calls Tryd.prog 64 #[.pointer (some ⟨p,0,none⟩),.agg (row 3 (tuV ps sl ln)).toArray,.int .i64 (k:Int),.int .i64 (l:Int)] w fun e w'=>e = .returned (.tuple #[.int .i64 ((fsA s ps sl:Nat):Int),.int .i64 ((cnA s ps sl ln k l:Nat):Int)]) ∧ Ext w w':=by
  have hq1:(sl:Int) * (s:Int) = ((sl * s:Nat):Int):=by simp
  have hq2:(((sl + 1) % 4:Nat):Int) * (s:Int) = (((sl + 1) % 4 * s:Nat):Int):=by simp
  have b1:sl * s ≤ 4 * 64:=Nat.mul_le_mul (by omega) hs.2
  have b2:(sl + 1) % 4 * s ≤ 4 * 64:=Nat.mul_le_mul (by omega) hs.2
  unfold cnA fsA at *
  by_cases a1:ps = 0
  · rw [if_pos a1] at hc ⊢
    by_cases a2:l = ln
    · rw [if_pos a2] at hc ⊢
      rw [if_pos a1]
      exact win_y_same B p T M L s lb lc bk Mw ps sl ln k l (sl + 1) ((sl + 1) % 4) ((sl + 1) % 4 * s) (sl * s) (sl * s + k - 1) ((k:Int) - 1) w hM a1 a2 (by show _ = _; rw [IntKind.wrap_i64,hq1]; omega) (by show _ = _; rw [IntKind.wrap_i64]; omega) (by show _ = _; rw [IntKind.wrap_i64]; omega)
    · rw [if_neg a2] at hc ⊢
      by_cases a3:k = 0
      · rw [if_pos a3] at hc ⊢
        rw [if_pos a1]
        exact win_y_zero B p T M L s lb lc bk Mw ps sl ln k l (sl + 1) ((sl + 1) % 4) ((sl + 1) % 4 * s) (sl * s) (sl * s - 1) ((k:Int) - 1) w hM a1 a2 a3 (by show _ = _; rw [IntKind.wrap_i64,hq1]; omega) (by show _ = _; rw [IntKind.wrap_i64]; omega)
      · rw [if_neg a3] at hc ⊢
        rw [if_pos a1]
        exact win_y_else B p T M L s lb lc bk Mw ps sl ln k l (sl + 1) ((sl + 1) % 4) ((sl + 1) % 4 * s) (sl * s) 0 ((k:Int) - 1) w hM a1 a2 a3 (by show _ = _; rw [IntKind.wrap_i64,hq1]; omega)
  · rw [if_neg a1] at hc ⊢
    by_cases a2:l = ln
    · rw [if_pos a2] at hc ⊢
      rw [if_neg a1]
      exact win_n_same B p T M L s lb lc bk Mw ps sl ln k l (sl + 1) ((sl + 1) % 4) ((sl + 1) % 4 * s) (3 * s) (3 * s + k - 1) ((k:Int) - 1) w hM a1 a2 (by show _ = _; rw [IntKind.wrap_i64]; omega) (by show _ = _; rw [Int.tmod_eq_emod_of_nonneg (by omega)]; omega) (by show _ = _; rw [IntKind.wrap_i64,hq2]; omega) (by show _ = _; rw [IntKind.wrap_i64]; omega) (by show _ = _; rw [IntKind.wrap_i64]; omega) (by show _ = _; rw [IntKind.wrap_i64]; omega)
    · rw [if_neg a2] at hc ⊢
      by_cases a3:k = 0
      · rw [if_pos a3] at hc ⊢
        rw [if_neg a1]
        exact win_n_zero B p T M L s lb lc bk Mw ps sl ln k l (sl + 1) ((sl + 1) % 4) ((sl + 1) % 4 * s) (3 * s) (3 * s - 1) ((k:Int) - 1) w hM a1 a2 a3 (by show _ = _; rw [IntKind.wrap_i64]; omega) (by show _ = _; rw [Int.tmod_eq_emod_of_nonneg (by omega)]; omega) (by show _ = _; rw [IntKind.wrap_i64,hq2]; omega) (by show _ = _; rw [IntKind.wrap_i64]; omega) (by show _ = _; rw [IntKind.wrap_i64]; omega)
      · rw [if_neg a3] at hc ⊢
        rw [if_neg a1]
        exact win_n_else B p T M L s lb lc bk Mw ps sl ln k l (sl + 1) ((sl + 1) % 4) ((sl + 1) % 4 * s) (3 * s) 0 ((k:Int) - 1) w hM a1 a2 a3 (by show _ = _; rw [IntKind.wrap_i64]; omega) (by show _ = _; rw [Int.tmod_eq_emod_of_nonneg (by omega)]; omega) (by show _ = _; rw [IntKind.wrap_i64,hq2]; omega) (by show _ = _; rw [IntKind.wrap_i64]; omega)
end Go.Proofs.YtfbmeclpcgdmhabDoor
