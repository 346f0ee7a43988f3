/-
  Bytes, nil or not, wherever they lie; parts one behind the other. Write: bytes come behind, for every Hash, all bytes, in every world; nothing else turns.
-/
import Derived.Test.YtfbmeclpcgdmhabDoorQk12
import Derived.Test.YtfbmeclpcgdmhabDoorQk6
import Derived.Lib.SlBytesConst
import Derived.Test.YtfbmeclpcgdmhabDoorQk1
namespace Go.Proofs.YtfbmeclpcgdmhabDoor
open Go.RowKit Go.BigFrame
def catF (m:Nat → BitVec 8) (n:Nat) (b:Nat → BitVec 8) (j:Nat):BitVec 8:=if j < n then m j else b (j - n)
theorem lie_new (w:World) (n:Nat) (C:Array Value) (t:TypeId) (fz:Nat × Nat) (b:Nat → BitVec 8) (h:∀ j,j < n → C[j]? = some (yv b j)):LieAt ⟨w.heap.size,0,none⟩ n (yv b) (w.alloc (.cells C t fz)):=
  ⟨fun j hj=>by
    have h1:(w.alloc (.cells C t fz)).cell? ⟨w.heap.size,j,none⟩ = C[j]?:=by
      have h2:(w.alloc (.cells C t fz)).heap[w.heap.size]? = some (.cells C t fz):=by
        show (w.heap.push (.cells C t fz))[w.heap.size]? = _
        simp
      unfold World.cell?
      rw [h2]
      rfl
    unfold Addr.add
    by_cases e:j = 0
    · subst e
      rw [if_pos rfl,h1]
      exact h 0 hj
    · rw [if_neg e]
      show (w.alloc (.cells C t fz)).cell? ⟨w.heap.size,0 + j,none⟩ = _
      rw [Nat.zero_add,h1]
      exact h j hj,by simp⟩
def BV (v:Value) (l:Nat) (b:Nat → BitVec 8) (w:World):Prop:=(v = .slice none 0 0 ∧ l = 0) ∨ ∃ a cap,v = .slice (some a) l cap ∧ l ≤ cap ∧ LieAt a l (yv b) w
theorem BV.ext {v:Value} {l:Nat} {b:Nat → BitVec 8} {w X:World} (h:BV v l b w) (k:Ext w X):BV v l b X:=by
  rcases h with h | ⟨a,cap,h1,h2,h3⟩
  · exact .inl h
  · exact .inr ⟨a,cap,h1,h2,h3.carry k⟩
theorem OwnB.bv {base:Nat} {v:Value} {l:Nat} {b:Nat → BitVec 8} {w:World} (h:OwnB base 5 v l (yv b) w):BV v l b w:=by
  rcases Nat.eq_zero_or_pos l with h0 | h0
  · subst h0
    rcases h.2 with ⟨rfl,_⟩ | ⟨g,cap,cur,rfl,_,hg,hc,_⟩
    · exact .inl ⟨rfl,rfl⟩
    · exact .inr ⟨_,cap,rfl,hc,fun j hj=>by omega,(Array.getElem?_eq_some_iff.1 hg).1⟩
  · obtain ⟨g,cap,rfl,_,hc,_,hR⟩:=h.lies h0
    refine .inr ⟨_,cap,rfl,hc,fun j hj=>?_,hR.2.2⟩
    have hadd:(⟨g,0,none⟩:Addr).add j = ⟨g,j,none⟩:=by unfold Addr.add; split <;> simp_all
    rw [hadd]
    exact hR.1 j hj
theorem loadLie {P:Program} {a:Addr} {n:Nat} {g:Nat → Value} {w:World} (h:LieAt a n g w):(loadCells a n).run P w = .ok (row n g).toArray w:=by
  have:=run_loadCells_list (P:=P) w a (row n g) (fun j v hv=>by
    obtain ⟨hj,rfl⟩:=row_some hv
    exact h.1 j hj)
  rwa [row_length] at this
theorem convV (v:Value) (l:Nat) (b:Nat → BitVec 8) (w:World) (h:BV v l b w):(convert 32 9 v).run Tryd.prog w = .ok (.string (bstr l fun j=>((b j).toNat:Int))) w:=by
  rcases h with ⟨rfl,rfl⟩ | ⟨a,cap,rfl,h2,h3⟩
  · rw [run_convert_bytes_string w 32 9 5 _ _ _ Tryd.underlying32 Tryd.underlying5 Tryd.underlying9]
    rfl
  · rw [run_convert_bytes_string w 32 9 5 _ _ _ Tryd.underlying32 Tryd.underlying5 Tryd.underlying9]
    refine run_bytesToString w _ l cap ((List.range l).map fun j=>((b j).toNat:Int)) ?_
    rw [loadLie h3,List.map_map]
    rfl
theorem BV.form {v:Value} {l:Nat} {b:Nat → BitVec 8} {w:World} (h:BV v l b w):∃ oa cp,v = .slice oa l cp:=by
  rcases h with ⟨h,h0⟩ | ⟨a,cap,h,_⟩
  · exact ⟨none,0,by rw [h,h0]⟩
  · exact ⟨_,cap,h⟩
theorem RowAt.lie {b n:Nat} {g:Nat → Value} {w:World} (h:RowAt b n g w) (m:Nat) (hm:m ≤ n):LieAt ⟨b,0,none⟩ m g w:=
  ⟨fun j hj=>by
    have hadd:(⟨b,0,none⟩:Addr).add j = ⟨b,j,none⟩:=by unfold Addr.add; split <;> simp_all
    rw [hadd]
    exact h.1 j (by omega),h.2.2⟩
theorem newB (w:World) (C:Array Value) (n:Nat) (f:Nat → BitVec 8) (hC:∀ j,j < n → C[j]? = some (yv f j)):BV (.slice (some ⟨w.heap.size,0,none⟩) n n) n f (w.alloc (.cells C 5)) ∧ Ext w (w.alloc (.cells C 5)):=
  ⟨.inr ⟨_,n,rfl,Nat.le_refl _,lie_new w n C 5 (0,0) f hC⟩,(Below.refl _ _).alloc (Nat.le_refl _) _⟩
def sumL (ls:Nat → Nat):Nat → Nat
  | 0=>0
  | n + 1=>sumL ls n + ls n
def joinF (m:Nat → BitVec 8) (n:Nat) (ls:Nat → Nat) (bs:Nat → Nat → BitVec 8):Nat → Nat → BitVec 8
  | 0=>m
  | i + 1=>catF (joinF m n ls bs i) (n + sumL ls i) (bs i)
def Parts (v:Value) (n:Nat) (us:Nat → Value) (ls:Nat → Nat) (bs:Nat → Nat → BitVec 8) (w:World):Prop:=
  ((v = .slice none 0 0 ∧ n = 0) ∨ ∃ a cap,v = .slice (some a) n cap ∧ n ≤ cap ∧ LieAt a n us w) ∧ ∀ i,i < n → BV (us i) (ls i) (bs i) w
theorem Parts.ext {v:Value} {n:Nat} {us:Nat → Value} {ls:Nat → Nat} {bs:Nat → Nat → BitVec 8} {w X:World} (h:Parts v n us ls bs w) (k:Ext w X):Parts v n us ls bs X:=by
  refine ⟨?_,fun i hi=>(h.2 i hi).ext k⟩
  rcases h.1 with h1 | ⟨a,cap,h1,h2,h3⟩
  · exact .inl h1
  · exact .inr ⟨a,cap,h1,h2,h3.carry k⟩
def allF (ls:Nat → Nat) (bs:Nat → Nat → BitVec 8) (k:Nat):Nat → BitVec 8:=joinF (fun _=>0#8) 0 ls bs k
theorem join_all (m:Nat → BitVec 8) (n:Nat) (ls:Nat → Nat) (bs:Nat → Nat → BitVec 8):∀ k j,j < n + sumL ls k → joinF m n ls bs k j = catF m n (allF ls bs k) j
  | 0,j,h=>by
    simp only [sumL] at h
    unfold catF
    rw [if_pos (by omega)]
    rfl
  | k + 1,j,h=>by
    simp only [sumL] at h
    show catF (joinF m n ls bs k) (n + sumL ls k) (bs k) j = catF m n (catF (allF ls bs k) (0 + sumL ls k) (bs k)) j
    unfold catF
    by_cases h1:j < n + sumL ls k
    · rw [if_pos h1,join_all m n ls bs k j h1]
      unfold catF
      by_cases h2:j < n
      · rw [if_pos h2,if_pos h2]
      · rw [if_neg h2,if_neg h2,if_pos (by omega)]
    · rw [if_neg h1,if_neg (by omega),if_neg (by omega),show j - (n + sumL ls k) = j - n - (0 + sumL ls k) by omega]
def restOf (v:Value):Nat:=match v with | .slice _ n _=>n | _=>0
def RestAt (w:World) (blk l:Nat) (b:Nat → BitVec 8) (i:Nat) (v:Value):Prop:=∃ ad cp,v = .slice (some ad) (l - i) cp ∧ l - i ≤ cp ∧ ad.block = blk ∧ LieAt ad (l - i) (yv fun j=>b (i + j)) w
theorem add_add (a:Addr) (i j:Nat):(a.add i).add j = a.add (i + j):=by
  unfold Addr.add
  by_cases hi:i = 0
  · subst hi; simp
  · rw [if_neg hi]
    by_cases hj:j = 0
    · subst hj; simp [hi]
    · rw [if_neg hj,if_neg (by omega)]; simp; omega
theorem elem22:ElemIs Tryd.prog 32 5:=elem_is Tryd.underlying32 (by kernel_rfl) (by kernel_rfl) (by kernel_rfl)
end Go.Proofs.YtfbmeclpcgdmhabDoor
namespace Go.Proofs.YtfbmeclpcgdmhabDoor
open Go.RowKit Go.BigFrame
def HashOf (c sz:Nat) (h0:Nat → BitVec 64) (m:Nat → BitVec 8) (n:Nat) (w:World):Prop:=∃ q wt,n = 128 * q + wt ∧ wt ≤ 128 ∧ (wt = 0 → q = 0) ∧ HashS c sz h0 m q wt w
theorem pieceF_congr (h:Nat → BitVec 64) (p p':Nat → BitVec 8) (t:BitVec 64) (l:Bool) (e:∀ j,j < 128 → p j = p' j):pieceF h p t l = pieceF h p' t l:=by
  have hk:∀ n,n ≤ 128 → wK p n = wK p' n:=by
    intro n
    induction n with
    | zero=>intro _; rfl
    | succ n ih=>
      intro hn
      funext t
      simp only [wK]
      rw [ih (by omega),e n (by omega)]
  funext j
  unfold pieceF
  rw [show wordsW p = wordsW p' from hk 128 (by omega)]
theorem chainB_congr (h0:Nat → BitVec 64) (m m':Nat → BitVec 8):∀ k,(∀ j,j < 128 * k → m j = m' j) → chainB h0 m k = chainB h0 m' k
  | 0,_=>rfl
  | k + 1,e=>by
    simp only [chainB]
    rw [chainB_congr h0 m m' k (fun j hj=>e j (by omega)),pieceF_congr _ _ (fun j=>m' (128 * k + j)) _ _ (fun j hj=>e _ (by omega))]
theorem HashS.congr {c sz q wt:Nat} {h0:Nat → BitVec 64} {m m':Nat → BitVec 8} {w:World} (h:HashS c sz h0 m q wt w) (e:∀ j,j < 128 * q + wt → m j = m' j):HashS c sz h0 m' q wt w:=by
  unfold HashS at h ⊢
  rw [← chainB_congr h0 m m' q (fun j hj=>e j (by omega))]
  have hp:pendB m' q wt = pendB m q wt:=by
    funext j
    unfold pendB
    split
    · rw [e _ (by omega)]
    · rfl
  rw [hp]
  exact h
theorem HashOf.congr {c sz n:Nat} {h0:Nat → BitVec 64} {m m':Nat → BitVec 8} {w:World} (h:HashOf c sz h0 m n w) (e:∀ j,j < n → m j = m' j):HashOf c sz h0 m' n w:=by
  obtain ⟨q,wt,h1,h2,h3,h4⟩:=h
  exact ⟨q,wt,h1,h2,h3,h4.congr fun j hj=>e j (by omega)⟩
theorem HashOf.ext {c sz n:Nat} {h0:Nat → BitVec 64} {m:Nat → BitVec 8} {w X:World} (h:HashOf c sz h0 m n w) (k:Ext w X):HashOf c sz h0 m n X:=by
  obtain ⟨q,wt,h1,h2,h3,h4⟩:=h
  exact ⟨q,wt,h1,h2,h3,RowAt.carry h4 k⟩
theorem HashOf.lt {c sz n:Nat} {h0:Nat → BitVec 64} {m:Nat → BitVec 8} {w:World} (h:HashOf c sz h0 m n w):c < w.heap.size:=by
  obtain ⟨q,wt,h1,h2,h3,h4⟩:=h
  exact h4.2.2
theorem HashOf.but {c d sz n:Nat} {h0:Nat → BitVec 64} {m:Nat → BitVec 8} {w X:World} (h:HashOf c sz h0 m n w) (k:But d w X) (hne:c ≠ d):HashOf c sz h0 m n X:=by
  obtain ⟨q,wt,h1,h2,h3,h4⟩:=h
  exact ⟨q,wt,h1,h2,h3,RowAt.but h4 k hne⟩
theorem cutP (c k:Nat) (hk:k < 128) (X:World):Sem.run Tryd.prog (Instr.sliceAt 94 (.pointer (some ⟨c,10,none⟩)) (some (.int .i64 (k:Int))) none none) X = .ok (.slice (some ⟨c,10 + k,none⟩) (128 - k) (128 - k)) X:=by
  have h1:Tryd.prog.arrayLen 94 = 128:=by kernel_rfl
  have h2:Tryd.prog.elem 94 = 5:=by kernel_rfl
  rw [run_sliceAt_array_l X 94 ⟨c,10,none⟩ (by rw [h1,h2]; exact Tryd.underlying94) .i64 (k:Int) (by omega) (by rw [h1]; omega)]
  rw [h1,h2,show (sizeOf 5).run Tryd.prog X = .ok 1 X by kernel_rfl]
  simp only [Result.andThen_ok,slicedAt,Int.toNat_natCast,Nat.mul_one]
  rw [if_neg (by omega)]
  unfold Addr.add
  split
  · rename_i h0; subst h0; rfl
  · rfl
theorem info5:(Tryd.prog.info? 5).map (·.size) = some 1:=by kernel_rfl
set_option maxHeartbeats 400000 in
theorem write_none (c:Nat) (w:World):Calls Tryd.prog 58 #[.pointer (some ⟨c,0,none⟩),.slice none 0 0] w fun e w'=>e = .returned (.tuple #[]) ∧ w' = w:=by
  go_enter Tryd.func58,Tryd.ntmps58
  go_wp2
  go_loopw [1] (fun v wr=>v = .slice none 0 0 ∧ wr = w) (fun _ _=>0)
  case atStart=>exact ⟨rfl,rfl⟩
  case round=>
    obtain ⟨rfl,rfl⟩:=hrel
    go_wp2
    exact bodyPost_end (v:=.tuple #[]) (by simp [results,Tryd.results58]) rfl ⟨rfl,rfl⟩
set_option maxRecDepth 20000 in
set_option maxHeartbeats 2000000 in
theorem write_any (c sz n l cap:Nat) (h0:Nat → BitVec 64) (m b:Nat → BitVec 8) (a:Addr) (w:World) (h:HashOf c sz h0 m n w) (hC:TabC w) (hb:LieAt a l (yv b) w) (hcap:l ≤ cap) (hbc:a.block ≠ c) (hc0:c ≠ 1):
    Calls Tryd.prog 58 #[.pointer (some ⟨c,0,none⟩),.slice (some a) l cap] w fun e w'=>e = .returned (.tuple #[]) ∧ HashOf c sz h0 (catF m n b) (n + l) w' ∧ But c w w':=by
  obtain ⟨M,hM⟩:∃ M,M = catF m n b:=⟨_,rfl⟩
  have HH:HashOf c sz h0 M (n + 0) w:=by
    rw [hM]
    exact h.congr fun j hj=>by unfold catF; rw [if_pos (by omega)]
  have HMb:Hid (∀ j,M (n + j) = b j):=fun j=>by rw [hM]; unfold catF; rw [if_neg (by omega),Nat.add_sub_cancel_left]
  rw [← hM]
  clear h hM
  replace HH:=hideit HH
  replace hC:=hideit hC
  replace hb:=hideit hb
  have HR0:RestAt w a.block l b 0 (.slice (some a) l cap):=⟨a,cap,by simp,by omega,rfl,⟨fun j hj=>by simpa using hb.out.1 j (by omega),hb.out.2⟩⟩
  replace HR0:=hideit HR0
  obtain ⟨blk,hblk⟩:∃ blk,blk = a.block:=⟨_,rfl⟩
  rw [← hblk] at HR0 hbc
  clear hb hblk
  go_enter Tryd.func58,Tryd.ntmps58
  go_wp2
  go_loopw [1] (fun v wr=>∃ i:Nat,i ≤ l ∧ RestAt w blk l b i v ∧ HashOf c sz h0 M (n + i) wr ∧ But c w wr) (fun v _=>restOf v)
  case atStart=>exact ⟨0,by omega,HR0.out,HH.out,But.refl _ _⟩
  case round=>
    clear HR0 HH
    obtain ⟨i,hi,⟨ad,cp,rfl,hcp,hab,hbs⟩,⟨q,wt,hq1,hq2,hq3,hT⟩,hBt⟩:=hrel
    replace hbs:=hideit hbs
    have HBt:=hideit hBt
    have HT:=hideit hT
    replace hab:=hideit hab
    replace hq1:=hideit hq1
    replace hq3:=hideit hq3
    clear hBt hT
    by_cases hlt:i < l
    · generalize hr:l - i = r at *
      have r0:(0:Int) < (r:Int):=by omega
      have r1:0 < r:=by omega
      replace hr:=hideit hr
      have htk:=hideit (take_any c sz q wt h0 M wr HT.out (hC.out.but HBt.out hc0) hc0 hq2)
      go_upto_region 3 with (go_at_call 68; refine htk.out.mono ?_; rintro e w2 ⟨rfl,h2,hB2⟩; have H2:=hideit h2; have HB2:=hideit (HBt.out.trans hB2); clear h2 hB2 htk HT HBt)
      obtain ⟨q',hq'⟩:∃ q',q' = (if wt = 128 then q + 1 else q):=⟨_,rfl⟩
      obtain ⟨u,hu⟩:∃ u,u = (if wt = 128 then 0 else wt):=⟨_,rfl⟩
      rw [← hq',← hu] at H2
      have hnu:n + i = 128 * q' + u ∧ u < 128:=by
        have h1:=hq1.out
        rw [hq',hu]
        by_cases e:wt = 128
        · rw [if_pos e,if_pos e]; omega
        · rw [if_neg e,if_neg e]; omega
      have hnu1:=hideit hnu.1
      have hu1:u < 128:=hnu.2
      clear hnu hq' hu hq1 hq3
      obtain ⟨t,ht⟩:∃ t,t = Nat.min r (128 - u):=⟨_,rfl⟩
      have ht1:t ≤ r:=by rw [ht]; exact Nat.min_le_left _ _
      have ht2:u + t ≤ 128:=by
        have h2:t ≤ 128 - u:=by rw [ht]; exact Nat.min_le_right _ _
        omega
      have ht0:0 < t:=by rw [ht]; exact Nat.lt_min.2 ⟨by omega,by omega⟩
      replace ht:=hideit ht
      have hcut:=cutP c u hu1
      have u0:(0:Int) ≤ (u:Int):=by omega
      have u1:(u:Int) < 128:=by omega
      have hne:=kept_ne w2.drew
      have e8:∀ k:Kept (Ext w2.drew),k.w.cell? ⟨c,138,none⟩ = some (.int .i64 (u:Int)):=fun k=>HashAt.wait (RowAt.carry (RowAt.drew H2.out) k.ok)
      refine wp_region_late 9 (by kernel_rfl) (by kernel_rfl) (by decide) ?_
      simp only [List.take_succ_cons,List.take_zero,List.drop_succ_cons,List.drop_zero]
      refine wpStrong_run 9 rfl ?_
      simp only [List.take_succ_cons,List.take_zero,List.drop_succ_cons,List.drop_zero]
      repeat (go_big_quiet_step (fail))
      refine wpQuiet_nil ?_
      refine wpStrong_nil ?_
      intro X hX
      have hwX:Ext w2 X:=Ext.trans (Below.refl _ _).drew hX
      have HX:Hid (HashS c sz h0 M q' u X):=RowAt.carry H2.out hwX
      have HBx:=hideit (HB2.out.ext hwX)
      clear hX hwX H2 HB2 hcut hne e8
      refine wpList_copy_row rfl (.tmp 19) (.tmp 20) 32 32 rfl 5 Tryd.underlying32 info5 c 139 _ HX.out (10 + u) (128 - u) (128 - u) ad r cp rfl rfl t (yv fun j=>b (i + j)) ht.out (fun j hj=>(hbs.out.but HBx.out (by rw [hab.out]; exact hbc)).1 j (by omega)) (by omega) (fun _ _=>rfl) ?_
      have HY:HashAt c sz (chainB h0 M q') (BitVec.ofNat 64 (128 * q')) (pendB M q' (u + t)) u (X.setCells c (10 + u) (row t (yv fun j=>b (i + j)))):=by
        refine HashAt.setPiece HX.out u t ht2 _ _ fun j _=>?_
        unfold pendB
        by_cases h1:j < u
        · rw [if_pos (by omega),if_neg (by omega),if_pos h1]
        · by_cases h2:j < u + t
          · rw [if_pos h2,if_pos (by omega),← HMb.out,show n + (i + (j - u)) = 128 * q' + j by have:=hnu1.out; omega]
          · rw [if_neg h2,if_neg (by omega),if_neg h1]
      replace HY:=hideit HY
      have HBy:=hideit (But.sets (row t (yv fun j=>b (i + j))) (10 + u) _ HBx.out)
      clear HX HBx
      generalize X.setCells c (10 + u) (row t (yv fun j=>b (i + j))) = Y at *
      have e8:=HY.out.wait
      have g8:=HY.out.2.1 138 (by omega)
      have n1:(u:Int) + (t:Int) ≤ 128:=by omega
      have n3:(0:Int) ≤ (t:Int):=by omega
      have n4:(t:Int) ≤ (r:Int):=by omega
      simp only [jk,jq,jv,jy]
      go_upto_region 5 with (fail)
      have HZ:HashS c sz h0 M q' (u + t) (Y.setCell ⟨c,138,none⟩ (.int .i64 ((u:Int) + (t:Int)))):=HY.out.setWait (u + t)
      replace HZ:=hideit HZ
      have HBz:=hideit (HBy.out.set 138 (.int .i64 ((u:Int) + (t:Int))))
      clear HY HBy e8 g8
      generalize Y.setCell ⟨c,138,none⟩ (.int .i64 ((u:Int) + (t:Int))) = Z at *
      have HR2:RestAt w blk l b (i + t) (.slice (if cp = t then some ad else some (ad.add t)) (r - t) (cp - t)):=by
        have hr':=hr.out
        by_cases hct:cp = t
        · rw [if_pos hct]
          exact ⟨ad,cp - t,by rw [show l - (i + t) = r - t by omega],by omega,hab.out,⟨fun j hj=>by omega,hbs.out.2⟩⟩
        · rw [if_neg hct]
          refine ⟨ad.add t,cp - t,by rw [show l - (i + t) = r - t by omega],by omega,(add_block _ _).trans hab.out,⟨fun j hj=>?_,by rw [add_block]; exact hbs.out.2⟩⟩
          rw [add_add,hbs.out.1 (t + j) (by omega)]
          simp only [yv,Nat.add_assoc]
      replace HR2:=hideit HR2
      go_wp2
      refine ⟨⟨i + t,by have:=hr.out; omega,HR2.out,⟨q',u + t,by have:=hnu1.out; omega,by omega,fun h=>by omega,HZ.out⟩,HBz.out⟩,by simp [restOf]; omega⟩
    · obtain rfl:i = l:=by omega
      have r0:i - i = 0:=by omega
      go_wp2
      exact bodyPost_end (v:=.tuple #[]) (by simp [results,Tryd.results58]) rfl ⟨rfl,⟨q,wt,hq1.out,hq2,hq3.out,HT.out⟩,HBt.out⟩
theorem writeV (c sz n l:Nat) (h0:Nat → BitVec 64) (m b:Nat → BitVec 8) (u:Value) (W w:World) (hW:BV u l b W) (hE:Ext W w) (h:HashOf c sz h0 m n w) (hC:TabC w) (hc:W.heap.size ≤ c) (hc0:c ≠ 1):
    Calls Tryd.prog 58 #[.pointer (some ⟨c,0,none⟩),u] w fun e w'=>e = .returned (.tuple #[]) ∧ HashOf c sz h0 (catF m n b) (n + l) w' ∧ But c w w':=by
  rcases hW with ⟨rfl,h1⟩ | ⟨a,cap,rfl,h2,h3⟩
  · refine (write_none c w).mono fun e w' hh=>⟨hh.1,?_⟩
    obtain ⟨_,rfl⟩:=hh
    subst h1
    exact ⟨h.congr fun j hj=>by unfold catF; rw [if_pos hj],But.refl _ _⟩
  · have h4:=h3.carry hE
    have:=h3.2
    exact write_any c sz n l cap h0 m b a w h hC h4 h2 (by omega) hc0
end Go.Proofs.YtfbmeclpcgdmhabDoor
