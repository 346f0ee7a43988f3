/-
  What a Hash holds; a whole piece taken. When two arrays of integers are the same; bytes as strings.
-/
import Derived.Test.YtfbmeclpcgdmhabDoorQk1
import Derived.Test.YtfbmeclpcgdmhabDoorQk11
import Derived.Test.YtfbmeclpcgdmhabDoorQk4
import Derived.Laws.StructEq
import Derived.Laws.BytesString
namespace Go.Proofs.YtfbmeclpcgdmhabDoor
open Go.RowKit Go.BigFrame
def digF (s:Nat → BitVec 64) (j:Nat):BitVec 8:=(s (j / 8) >>> (8 * (j % 8))).setWidth 8
def hv (sz:Nat) (s:Nat → BitVec 64) (dn:BitVec 64) (p:Nat → BitVec 8) (wt:Nat) (j:Nat):Value:=
  if j = 0 then .int .i64 (sz:Int) else if j < 9 then wv s (j - 1) else if j = 9 then .int .u64 (dn.toNat:Int) else if j < 138 then yv p (j - 10) else .int .i64 (wt:Int)
def HashAt (c sz:Nat) (s:Nat → BitVec 64) (dn:BitVec 64) (p:Nat → BitVec 8) (wt:Nat) (w:World):Prop:=RowAt c 139 (hv sz s dn p wt) w
section
variable {c sz wt:Nat} {s:Nat → BitVec 64} {dn:BitVec 64} {p:Nat → BitVec 8} {w:World}
theorem HashAt.size (h:HashAt c sz s dn p wt w):w.cell? ⟨c,0,none⟩ = some (.int .i64 (sz:Int)):=h.1 0 (by decide)
theorem HashAt.done (h:HashAt c sz s dn p wt w):w.cell? ⟨c,9,none⟩ = some (.int .u64 (dn.toNat:Int)):=h.1 9 (by decide)
theorem HashAt.wait (h:HashAt c sz s dn p wt w):w.cell? ⟨c,138,none⟩ = some (.int .i64 (wt:Int)):=h.1 138 (by decide)
theorem HashAt.state (h:HashAt c sz s dn p wt w):w.rangeAt c 1 (row 8 (wv s)):=fun j v hx=>by
  obtain ⟨hj,rfl⟩:=row_some hx
  have h1:=h.1 (1 + j) (by omega)
  rw [h1]
  simp only [hv,if_neg (show ¬ (1 + j = 0) by omega),if_pos (show 1 + j < 9 by omega),show 1 + j - 1 = j by omega]
theorem HashAt.piece (h:HashAt c sz s dn p wt w):w.rangeAt c 10 (row 128 (yv p)):=fun j v hx=>by
  obtain ⟨hj,rfl⟩:=row_some hx
  have h1:=h.1 (10 + j) (by omega)
  rw [h1]
  simp only [hv,if_neg (show ¬ (10 + j = 0) by omega),if_neg (show ¬ (10 + j < 9) by omega),if_neg (show ¬ (10 + j = 9) by omega),if_pos (show 10 + j < 138 by omega),show 10 + j - 10 = j by omega]
theorem HashAt.setState (h:HashAt c sz s dn p wt w) (s':Nat → BitVec 64):HashAt c sz s' dn p wt (w.setCells c 1 (row 8 (wv s'))):=
  (RowAt.part h 1 8 _ (by omega)).congr fun j _=>by
    by_cases h0:j = 0
    · subst h0; rw [if_neg (by omega)]; rfl
    · by_cases hj:j < 9
      · rw [if_pos (by omega)]; simp only [hv,if_neg h0,if_pos hj]
      · rw [if_neg (by omega)]; simp only [hv,if_neg h0,if_neg hj]
theorem HashAt.setPiece (h:HashAt c sz s dn p wt w) (k t:Nat) (hk:k + t ≤ 128) (u p':Nat → BitVec 8) (hp:∀ j,j < 128 → p' j = if k ≤ j ∧ j < k + t then u (j - k) else p j):HashAt c sz s dn p' wt (w.setCells c (10 + k) (row t (yv u))):=
  (RowAt.part h (10 + k) t _ (by omega)).congr fun j hj139=>by
    by_cases h0:j = 0
    · subst h0; rw [if_neg (by omega)]; rfl
    · by_cases hj:j < 9
      · rw [if_neg (by omega)]; simp only [hv,if_neg h0,if_pos hj]
      · by_cases h9:j = 9
        · subst h9; rw [if_neg (by omega)]; rfl
        · by_cases hj2:j < 138
          · simp only [hv,if_neg h0,if_neg hj,if_neg h9,if_pos hj2,yv,hp (j - 10) (by omega)]
            by_cases hin:10 + k ≤ j ∧ j < 10 + k + t
            · rw [if_pos hin,if_pos (by omega),show j - (10 + k) = j - 10 - k by omega]
            · rw [if_neg hin,if_neg (by omega)]
          · rw [if_neg (by omega)]; simp only [hv,if_neg h0,if_neg hj,if_neg h9,if_neg hj2]
theorem HashAt.setDone (h:HashAt c sz s dn p wt w) (d':BitVec 64):HashAt c sz s d' p wt (w.setCell ⟨c,9,none⟩ (.int .u64 (d'.toNat:Int))):=
  (RowAt.set h 9 _).congr fun j _=>by
    by_cases e:j = 9
    · subst e; rw [if_pos rfl]; rfl
    · rw [if_neg e]
      simp only [hv,if_neg e]
theorem HashAt.setWait (h:HashAt c sz s dn p wt w) (t':Nat):HashAt c sz s dn p t' (w.setCell ⟨c,138,none⟩ (.int .i64 (t':Int))):=
  (RowAt.set h 138 _).congr fun j hj=>by
    by_cases e:j = 138
    · subst e; rw [if_pos rfl]; rfl
    · rw [if_neg e]
      unfold hv
      split
      · rfl
      · split
        · rfl
        · split
          · rfl
          · rw [if_pos (by omega),if_pos (by omega)]
end
theorem HashAt.congrP {c sz wt:Nat} {s:Nat → BitVec 64} {dn:BitVec 64} {p p':Nat → BitVec 8} {w:World} (h:HashAt c sz s dn p wt w) (e:∀ j,j < 128 → p j = p' j):HashAt c sz s dn p' wt w:=
  RowAt.congr h fun j hj=>by
    unfold hv
    split
    · rfl
    · split
      · rfl
      · split
        · rfl
        · split
          · simp only [yv,e (j - 10) (by omega)]
          · rfl
def chainB (h0:Nat → BitVec 64) (m:Nat → BitVec 8):Nat → Nat → BitVec 64
  | 0=>h0
  | k + 1=>pieceF (chainB h0 m k) (fun j=>m (128 * k + j)) (BitVec.ofNat 64 (128 * (k + 1))) false
def pendB (m:Nat → BitVec 8) (q wt j:Nat):BitVec 8:=if j < wt then m (128 * q + j) else 0#8
def HashS (c sz:Nat) (h0:Nat → BitVec 64) (m:Nat → BitVec 8) (q wt:Nat) (w:World):Prop:=HashAt c sz (chainB h0 m q) (BitVec.ofNat 64 (128 * q)) (pendB m q wt) wt w
theorem TabC.but {c:Nat} {w X:World} (h:TabC w) (k:But c w X) (hc:c ≠ 1):TabC X:=
  ⟨fun j hj=>(k.cell ⟨1,j,none⟩ h.2 (Ne.symm hc)).trans (h.1 j hj),Nat.lt_of_lt_of_le h.2 k.size⟩
theorem zbuild31 (X:World):(Instr.build 94 #[]).run Tryd.prog X = .ok (.agg (row 128 (yv fun _=>0#8)).toArray) X:=by kernel_rfl
theorem RowAt.thereSub {b n:Nat} {g:Nat → Value} {w:World} (h:RowAt b n g w) (off m:Nat) (hm:off + m ≤ n):w.there b off m:=fun j hj=>by
  have h1:=h.1 (off + j) (by omega)
  have h2:=h.2.1 (off + j) (by omega)
  simp [h1,h2]
theorem add128 (q:Nat):IntKind.u64.wrap (((BitVec.ofNat 64 (128 * q)).toNat:Int) + 128) = ((BitVec.ofNat 64 (128 * (q + 1))).toNat:Int):=by
  have h:=sW_wrap (BitVec.ofNat 64 (128 * q)) 128#64
  have e:sW (BitVec.ofNat 64 (128 * q)) 128#64 = BitVec.ofNat 64 (128 * (q + 1)):=by
    unfold sW
    rw [Nat.mul_add,BitVec.ofNat_add]
  rw [e] at h
  exact h
set_option maxRecDepth 20000 in
set_option maxHeartbeats 2000000 in
theorem take_any (c sz q wt:Nat) (h0:Nat → BitVec 64) (m:Nat → BitVec 8) (w:World) (h:HashS c sz h0 m q wt w) (hC:TabC w) (hc:c ≠ 1) (hwt:wt ≤ 128):
    Calls Tryd.prog 68 #[.pointer (some ⟨c,0,none⟩)] w fun e w'=>e = .returned (.tuple #[]) ∧ HashS c sz h0 m (if wt = 128 then q + 1 else q) (if wt = 128 then 0 else wt) w' ∧ But c w w':=by
  have ew:=h.wait
  by_cases hf:wt = 128
  · rw [if_pos hf,if_pos hf]
    subst hf
    have HH:=hideit h
    have ed:=h.done
    have gd:=h.2.1 9 (by omega)
    have ha:=add128 q
    have hpc:=piece_any (chainB h0 m q) (pendB m q 128) (BitVec.ofNat 64 (128 * (q + 1))) false
    have hst:pieceF (chainB h0 m q) (pendB m q 128) (BitVec.ofNat 64 (128 * (q + 1))) false = chainB h0 m (q + 1):=by
      have hw:wordsW (pendB m q 128) = wordsW (fun j=>m (128 * q + j)):=by
        have hk:∀ n,n ≤ 128 → wK (pendB m q 128) n = wK (fun j=>m (128 * q + j)) n:=by
          intro n
          induction n with
          | zero=>intro _; rfl
          | succ n ih=>
            intro hn
            funext t
            simp only [wK]
            have hp:pendB m q 128 n = m (128 * q + n):=by unfold pendB; rw [if_pos (by omega)]
            rw [ih (by omega),hp]
        exact hk 128 (by omega)
      funext j
      show pieceF _ _ _ _ j = pieceF (chainB h0 m q) (fun j=>m (128 * q + j)) (BitVec.ofNat 64 (128 * (q + 1))) false j
      unfold pieceF
      rw [hw]
    rw [hst] at hpc
    clear hst
    obtain ⟨s1,hs1⟩:∃ s1,s1 = chainB h0 m (q + 1):=⟨_,rfl⟩
    rw [← hs1] at hpc
    replace hs1:=hideit hs1
    unfold HashS at HH
    obtain ⟨s0,hs0⟩:∃ s0,s0 = chainB h0 m q:=⟨_,rfl⟩
    obtain ⟨p0,hp0⟩:∃ p0,p0 = pendB m q 128:=⟨_,rfl⟩
    obtain ⟨d1,hd1⟩:∃ d1,d1 = BitVec.ofNat 64 (128 * (q + 1)):=⟨_,rfl⟩
    obtain ⟨d0,hd0⟩:∃ d0,d0 = BitVec.ofNat 64 (128 * q):=⟨_,rfl⟩
    rw [← hs0,← hp0,← hd1] at hpc
    rw [← hs0,← hp0,← hd0] at HH
    rw [← hd0,← hd1] at ha
    rw [← hd0] at ed
    replace hpc:=hideit hpc
    replace hd1:=hideit hd1
    replace hC:=hideit hC
    clear h hs0 hp0 hd0
    go_enter Tryd.func68,Tryd.ntmps68
    go_upto_region 2 with (fail)
    have HH1:=hideit (HH.out.setDone d1)
    have HB1:=hideit ((But.refl c w).set 9 (.int .u64 (d1.toNat:Int)))
    generalize w.setCell ⟨c,9,none⟩ (.int .u64 (d1.toNat:Int)) = w1 at *
    clear HH ed gd ew ha
    have hne:=kept_ne w1.drew
    have e9:∀ k:Kept (Ext w1.drew),k.w.cell? ⟨c,9,none⟩ = some (.int .u64 (d1.toNat:Int)):=fun k=>HashAt.done (RowAt.carry (RowAt.drew HH1.out) k.ok)
    refine wp_region_late 14 (by kernel_rfl) (by kernel_rfl) (by decide) ?_
    simp only [List.take_succ_cons,List.take_zero,List.drop_succ_cons,List.drop_zero]
    refine wpStrong_run 13 rfl ?_
    simp only [List.take_succ_cons,List.take_zero,List.drop_succ_cons,List.drop_zero]
    go_big_quiet_step (fail)
    go_big_quiet_step (fail)
    go_big_quiet_step (fail)
    go_big_quiet_step (fail)
    go_big_quiet_want
    refine loadQ 92 (.tmp 17) c 1 8 (wv s0) rfl rfl (fun w' hw'=>HashAt.state (RowAt.carry (RowAt.drew HH1.out) hw')) Tryd.underlying92 rfl info30 ?_
    simp only [jk,jq,jv,jy]
    go_big_quiet_on
    go_big_quiet_step (fail)
    go_big_quiet_step (fail)
    go_big_quiet_step (fail)
    go_big_quiet_want
    refine loadQ 94 (.tmp 21) c 10 128 (yv p0) rfl rfl (fun w' hw'=>HashAt.piece (RowAt.carry (RowAt.drew HH1.out) hw')) Tryd.underlying94 rfl info31 ?_
    simp only [jk,jq,jv,jy]
    go_big_quiet_on
    repeat (go_big_quiet_step (fail))
    refine wpQuiet_nil ?_
    refine wpStrong_call rfl (fun X=>by simp [go_sem]) (fun X hX=>hpc.out X ((hC.out.but HB1.out hc).ext (Ext.trans (Below.refl _ _).drew hX))) ?_
    simp only [jk,jq,jv,jy]
    refine wpStrong_nil ?_
    intro X hX
    have hwX:Ext w1 X:=Ext.trans (Below.refl _ _).drew hX
    have HH2:Hid (HashAt c sz s0 d1 p0 128 X):=RowAt.carry HH1.out hwX
    have HB2:=hideit (HB1.out.ext hwX)
    clear hwX hX HH1 HB1 hne e9 hpc
    refine wpList_run rfl (.pointer (some ⟨c,0,none⟩)) (by simp [go_sem]) ?_
    simp only [jk,jq,jv,jy]
    refine wpList_run rfl (.pointer (some ⟨c,1,none⟩)) (by simp [go_sem]) ?_
    simp only [jk,jq,jv,jy]
    refine wpList_store_mid rfl 92 (.tmp 29) (.tmp 27) rfl c 1 (row 8 (wv s1)).toArray rfl rfl (by rw [row_size]; exact RowAt.thereSub HH2.out 1 8 (by omega)) (by rw [row_size]; exact info30) (row_one fun _ _=>rfl) ?_
    have HH3:=hideit (HH2.out.setState s1)
    have HB3:=hideit (But.sets (row 8 (wv s1)) 1 _ HB2.out)
    generalize X.setCells c 1 (row 8 (wv s1)) = w3 at *
    clear HH2 HB2
    simp only [Act.put]
    go_upto_region 3 with (fail)
    refine wp_region_lit ?_
    refine wpList_run rfl (.pointer (some ⟨c,0,none⟩)) (by simp [go_sem]) ?_
    simp only [jk,jq,jv,jy]
    refine wpList_build rfl 94 [] rfl _ (zbuild31 _) ?_
    simp only [jk,jq,jv,jy]
    refine wpList_run rfl (.pointer (some ⟨c,0,none⟩)) (by simp [go_sem]) ?_
    simp only [jk,jq,jv,jy]
    refine wpList_run rfl (.pointer (some ⟨c,10,none⟩)) (by simp [go_sem]) ?_
    simp only [jk,jq,jv,jy]
    refine wpList_store_mid rfl 94 (.tmp 33) (.tmp 31) rfl c 10 (row 128 (yv fun _=>0#8)).toArray rfl rfl (by rw [row_size]; exact RowAt.thereSub HH3.out 10 128 (by omega)) (by rw [row_size]; exact info31) (row_one fun _ _=>rfl) ?_
    have HH4:=hideit (HH3.out.setPiece 0 128 (by omega) (fun _=>0#8) (fun _=>0#8) (fun j hj=>by rw [if_pos (by omega)]))
    have HB4:=hideit (But.sets (row 128 (yv fun _=>0#8)) 10 _ HB3.out)
    generalize w3.setCells c 10 (row 128 (yv fun _=>0#8)) = w4 at *
    clear HH3 HB3
    simp only [Act.put]
    have e138:=HH4.out.wait
    have g138:=HH4.out.2.1 138 (by omega)
    have HH5:HashS c sz h0 m (q + 1) 0 (w4.setCell ⟨c,138,none⟩ (.int .i64 0)):=by
      unfold HashS
      rw [← hs1.out,← hd1.out]
      exact (HH4.out.setWait 0).congrP fun j _=>by unfold pendB; rw [if_neg (by omega)]
    replace HH5:=hideit HH5
    have HB5:=hideit (HB4.out.set 138 (.int .i64 0))
    go_wp2
    exact bodyPost_end (v:=.tuple #[]) (by simp [results,Tryd.results68]) rfl ⟨rfl,HH5.out,HB5.out⟩
  · rw [if_neg hf,if_neg hf]
    have i1:(wt:Int) < 128:=by omega
    have HH:=hideit h
    clear h
    go_enter Tryd.func68,Tryd.ntmps68
    go_wp2
    exact bodyPost_ret (v:=.tuple #[]) (by simp [results,Tryd.results68]) rfl ⟨rfl,HH.out,But.refl _ _⟩
end Go.Proofs.YtfbmeclpcgdmhabDoor
namespace Go.Proofs.YtfbmeclpcgdmhabDoor
open Go.RowKit Go.BigFrame
section
variable {P:Program}
end
def bstr (n:Nat) (z:Nat → Int):ByteArray:=((List.range n).map z).foldl (fun r n=>r.push (UInt8.ofNat n.toNat)) ByteArray.empty
end Go.Proofs.YtfbmeclpcgdmhabDoor
