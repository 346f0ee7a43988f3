/-
  Pages of the first pass that are not made yet are zeros: so both ways make the same pages. The document's new page.
-/
import Derived.Test.YtfbmeclpcgdmhabDoorQk42
import Derived.Test.YtfbmeclpcgdmhabDoorQk1
namespace Go.Proofs.YtfbmeclpcgdmhabDoor
open Go.RowKit Go.BigFrame
set_option linter.unusedVariables false
theorem idx_ne {s l l' i i':Nat} (hi:i < 4 * s) (hi':i' < 4 * s) (h:l ≠ l' ∨ i ≠ i'):4 * s * l + i ≠ 4 * s * l' + i':=by
  intro e
  rcases Nat.lt_trichotomy l l' with q | q | q
  · have:4 * s * l + 4 * s ≤ 4 * s * l':=by rw [← Nat.mul_succ]; exact Nat.mul_le_mul_left _ q
    omega
  · subst q
    omega
  · have:4 * s * l' + 4 * s ≤ 4 * s * l:=by rw [← Nat.mul_succ]; exact Nat.mul_le_mul_left _ q
    omega
theorem pg_other {M:Nat → BitVec 64} {p p':Nat} (y:Nat → BitVec 64) (h:p' ≠ p) (j:Nat) (hj:j < 128):pgA (upA M p y) p' j = pgA M p' j:=by
  unfold pgA upA
  rw [if_neg (by omega)]
def stR (s L T:Nat) (M:Nat → BitVec 64) (pass slice lane k:Nat):Nat → BitVec 64:=
  upA M (4 * s * lane + (slice * s + k)) (if 0 < pass then xrF (pagesF (pgA M (ahA s slice lane k)) (pgA M (otA s L pass slice lane k (wdA s L T M pass slice lane k)))) (pgA M (4 * s * lane + (slice * s + k))) else pagesF (pgA M (ahA s slice lane k)) (pgA M (otA s L pass slice lane k (wdA s L T M pass slice lane k))))
def Un (s slice lane k:Nat) (M:Nat → BitVec 64):Prop:=∀ l i j,i < 4 * s → 2 ≤ i → (slice * s + s ≤ i ∨ slice * s ≤ i ∧ (lane < l ∨ l = lane ∧ slice * s + k ≤ i)) → j < 128 → pgA M (4 * s * l + i) j = 0#64
theorem stR_eq {s L T:Nat} {M:Nat → BitVec 64} {pass slice lane k:Nat} (hk:k < s) (hsl:slice < 4) (h2:pass = 0 → 2 ≤ slice * s + k) (h:pass = 0 → Un s slice lane k M):stR s L T M pass slice lane k = stA s L T M pass slice lane k:=by
  unfold stR stA
  refine upA_congr _ _ _ _ fun t ht=>?_
  by_cases hp:0 < pass
  · rw [if_pos hp]
    unfold xrF xW
    exact BitVec.xor_comm _ _
  · rw [if_neg hp]
    have b1:slice * s ≤ 3 * s:=Nat.mul_le_mul_right _ (by omega)
    have z:=h (by omega) lane (slice * s + k) t (by omega) (h2 (by omega)) (.inr ⟨by omega,.inr ⟨rfl,Nat.le_refl _⟩⟩) ht
    unfold xrF xW
    rw [z,BitVec.zero_xor]
theorem un_beg {s:Nat} (sd:Nat → BitVec 8) (hs:2 ≤ s):∀ L,Un s 0 0 0 (bgA s sd L)
  | 0=>fun l i j _ _ _ _=>rfl
  | L + 1=>fun l i j hi h2 hc hj=>by
    show pgA (upA (upA (bgA s sd L) (4 * s * L) (bgP sd 0 L)) (4 * s * L + 1) (bgP sd 1 L)) (4 * s * l + i) j = 0#64
    have q0:4 * s * l + i ≠ 4 * s * L:=idx_ne (l:=l) (l':=L) (i':=0) hi (show 0 < 4 * s by omega) (.inr (by omega))
    rw [pg_other _ (idx_ne hi (by omega) (.inr (by omega))) j hj,pg_other _ q0 j hj]
    exact un_beg sd hs L l i j hi h2 hc hj
theorem un_st {s L T:Nat} {M:Nat → BitVec 64} {slice lane k:Nat} (hk:k < s) (hsl:slice < 4) (h:Un s slice lane k M):Un s slice lane (k + 1) (stA s L T M 0 slice lane k):=fun l i j hi h2 hc hj=>by
  unfold stA
  have b1:slice * s ≤ 3 * s:=Nat.mul_le_mul_right _ (by omega)
  rw [pg_other _ (idx_ne hi (by omega) (by omega)) j hj]
  exact h l i j hi h2 (by omega) hj
theorem un_fl {s L T:Nat} {M:Nat → BitVec 64} {slice lane:Nat} (hsl:slice < 4) (h:Un s slice lane 0 M):∀ k,k ≤ s → Un s slice lane k (flA s L T M 0 slice lane k)
  | 0,_=>h
  | k + 1,hk=>by
    have i:=un_fl (L:=L) (T:=T) hsl h k (by omega)
    show Un s slice lane (k + 1) (if 0 = 0 ∧ slice * s + k < 2 then flA s L T M 0 slice lane k else stA s L T (flA s L T M 0 slice lane k) 0 slice lane k)
    by_cases c:0 = 0 ∧ slice * s + k < 2
    · rw [if_pos c]
      exact fun l i' j hi h2 hc hj=>i l i' j hi h2 (by omega) hj
    · rw [if_neg c]
      exact un_st (by omega) hsl i
theorem un_la {s L T:Nat} {M:Nat → BitVec 64} {slice:Nat} (hsl:slice < 4) (h:Un s slice 0 0 M):∀ l,Un s slice l 0 (laA s L T M 0 slice l)
  | 0=>h
  | l + 1=>fun l' i j hi h2 hc hj=>un_fl hsl (un_la hsl h l) s (Nat.le_refl _) l' i j hi h2 (by omega) hj
theorem un_sl {s L T:Nat} {M:Nat → BitVec 64} (h:Un s 0 0 0 M):∀ k,k ≤ 4 → Un s k 0 0 (slA s L T M 0 k)
  | 0,_=>h
  | k + 1,hk=>fun l i j hi h2 hc hj=>un_la (by omega) (un_sl h k (by omega)) L l i j hi h2 (by
      have:(k + 1) * s = k * s + s:=Nat.succ_mul k s
      omega) hj
theorem fl_step {s L T:Nat} {M:Nat → BitVec 64} {pass slice lane k:Nat} (hs:2 ≤ s) (hk:k < s) (hsl:slice < 4) (h2:pass = 0 → slice = 0 → 2 ≤ k) (h:pass = 0 → Un s slice lane 0 M):flA s L T M pass slice lane (k + 1) = stR s L T (flA s L T M pass slice lane k) pass slice lane k:=by
  have c:¬ (pass = 0 ∧ slice * s + k < 2):=by
    intro ⟨e,q⟩
    by_cases z:slice = 0
    · have:=h2 e z
      omega
    · have:1 * s ≤ slice * s:=Nat.mul_le_mul_right _ (by omega)
      omega
  show (if pass = 0 ∧ slice * s + k < 2 then _ else _) = _
  rw [if_neg c,stR_eq hk hsl (by omega)]
  intro e
  subst e
  exact un_fl hsl (h rfl) k (by omega)
theorem fl_two {s L T:Nat} {M:Nat → BitVec 64} {lane:Nat}:flA s L T M 0 0 lane 2 = M:=by
  show (if 0 = 0 ∧ 0 * s + 1 < 2 then (if 0 = 0 ∧ 0 * s + 0 < 2 then M else _) else _) = M
  rw [if_pos (by omega),if_pos (by omega)]
theorem un_lane {s L T:Nat} {sd:Nat → BitVec 8} (hs:2 ≤ s) {slice lane:Nat} (hsl:slice < 4):Un s slice lane 0 (laA s L T (slA s L T (bgA s sd L) 0 slice) 0 slice lane):=un_la hsl (un_sl (un_beg sd hs L) slice (by omega)) lane
end Go.Proofs.YtfbmeclpcgdmhabDoor
namespace Go.Proofs.YtfbmeclpcgdmhabDoor
open Go.RowKit Go.BigFrame
set_option linter.unusedVariables false
theorem rm_range {b n:Nat} {Mr:Nat → BitVec 64} {X:World} (h:RowAt b (128 * n) (wv Mr) X) (i:Nat) (hi:i < n):X.rangeAt b (i * 128) (row 128 (wv (pgA Mr i))):=h.sub (i * 128) 128 (by omega) _ fun j hj=>by
  unfold wv pgA
  rw [show i * 128 + j = 128 * i + j by omega]
theorem rm_set {b n:Nat} {Mr:Nat → BitVec 64} {X:World} (h:RowAt b (128 * n) (wv Mr) X) (i:Nat) (hi:i < n) (y:Nat → BitVec 64):RowAt b (128 * n) (wv (upA Mr i y)) (X.setCells b (i * 128) (row 128 (wv y))):=(h.part (i * 128) 128 (wv y) (by omega)).congr fun j hj=>by
  unfold wv upA
  by_cases c:i * 128 ≤ j ∧ j < i * 128 + 128
  · rw [if_pos c,if_pos (by omega),show j - 128 * i = j - i * 128 by omega]
  · rw [if_neg c,if_neg (by omega)]
theorem ot_lt {s L ps sl ln k:Nat} (x:BitVec 64) (hs:2 ≤ s) (hln:ln < L):otA s L ps sl ln k x < 4 * s * L:=by
  have h1:lnA L ps sl ln x < L:=by
    unfold lnA
    by_cases c:ps = 0 ∧ sl = 0
    · rw [if_pos c]; exact hln
    · rw [if_neg c]; exact Nat.mod_lt _ (by omega)
  have h2:ixA s ps sl ln k (lnA L ps sl ln x) x < 4 * s:=Nat.mod_lt _ (by omega)
  have h3:4 * s * lnA L ps sl ln x + 4 * s ≤ 4 * s * L:=by rw [← Nat.mul_succ]; exact Nat.mul_le_mul_left _ h1
  unfold otA
  omega
def lpX (x o:Nat → BitVec 64) (i:Nat):Nat → BitVec 64:=fun j=>if j < i then xW (x j) (o j) else x j
theorem lpX_step {c i:Nat} {x o:Nat → BitVec 64} {X:World} (h:RowAt c 128 (wv (lpX x o i)) X):RowAt c 128 (wv (lpX x o (i + 1))) (X.setCell ⟨c,i,none⟩ (.int .u64 ((xW (x i) (o i)).toNat:Int))):=(h.set i _).congr fun j hj=>by
  unfold wv lpX
  by_cases e:j = i
  · rw [if_pos e,if_pos (by omega),e]
  · rw [if_neg e]
    by_cases e2:j < i
    · rw [if_pos e2,if_pos (by omega)]
    · rw [if_neg e2,if_neg (by omega)]
theorem rword_any (p T M L q b c ps sl ln k s ah:Nat) (Mr:Nat → BitVec 64) (x:BitVec 64) (w:World) (hM:RowAt p 9 (rmV T M L q b c ps sl ln k) w) (hq:q = 4 * s) (hs:2 ≤ s ∧ s ≤ 64) (hk:k ≤ 64) (hL:L ≤ 4) (hah:ah = ahA s sl ln k) (hx:x = wdA s L T Mr ps sl ln k):Calls Tryd.prog 54 #[.pointer (some ⟨p,0,none⟩),.agg (row 128 (wv (pgA Mr ah))).toArray] w fun e w'=>e = .returned (.int .u64 (x.toNat:Int)) ∧ Ext w w':=by
  rw [hx,hah]
  unfold wdA
  by_cases h1:0 < ps
  · rw [if_neg (by omega)]
    exact rword_p p T M L q b c ps sl ln k _ w hM h1
  · by_cases h2:1 < sl
    · rw [if_neg (by omega)]
      exact rword_s p T M L q b c ps sl ln k _ w hM h1 h2
    · rw [if_pos (by omega)]
      have hb:4 * s * L ≤ 256 * 4:=Nat.mul_le_mul (by omega) hL
      have e:(q:Int) * (L:Int) = ((4 * s * L:Nat):Int):=by rw [hq]; exact (Int.natCast_mul _ _).symm
      refine rword_a p T M L q b c ps sl ln k (4 * s * L) _ w hM h1 h2 (zA_wrap ps sl ln _ T 0) (zA_wrap ps sl ln _ T 1) (zA_wrap ps sl ln _ T 2) (zA_wrap ps sl ln _ T 3) (zA_wrap ps sl ln _ T 4) (zA_wrap ps sl ln _ T 6) (by show _ = _; rw [← zA_wrap ps sl ln _ T 5]; rfl) (by show _ = _; rw [e,IntKind.wrap_i64]; omega) (by show _ = _; omega) (by show _ = _; rw [Int.tmod_eq_emod_of_nonneg (by omega)]; omega) (by show _ < _; omega)
set_option maxRecDepth 20000 in
set_option maxHeartbeats 4000000 in
theorem rmem_page (B p T M L q b c ps sl ln k s:Nat) (Mr:Nat → BitVec 64) (w:World) (hM:RowAt p 9 (rmV T M L q b c ps sl ln k) w) (hR:RowAt b (128 * (q * L)) (wv Mr) w) (hpb:p ≠ b) (hB:B ≤ b) (hBw:B ≤ w.heap.size) (hq:q = 4 * s) (hs:2 ≤ s ∧ s ≤ 64) (hsl:sl < 4) (hk:k < s) (hln:ln < L) (hL:L ≤ 4) (hk0:Hid (ps = 0 → sl = 0 → 2 ≤ k)):Calls Tryd.prog 35 #[.pointer (some ⟨p,0,none⟩)] w fun e w'=>e = .returned (.tuple #[]) ∧ RowAt p 9 (rmV T M L q b c ps sl ln k) w' ∧ RowAt b (128 * (q * L)) (wv (stR s L T Mr ps sl ln k)) w' ∧ Below B w w':=by
  have hpl:sl * s + k < 4 * s:=by
    have:sl * s + s ≤ 4 * s:=by rw [← Nat.succ_mul]; exact Nat.mul_le_mul_right _ hsl
    omega
  obtain ⟨pl,hple⟩:∃ a,a = sl * s + k:=⟨_,rfl⟩
  obtain ⟨hd,hhd⟩:∃ a,a = (sl * s + k + (4 * s - 1)) % (4 * s):=⟨_,rfl⟩
  obtain ⟨ah,hah⟩:∃ a,a = ahA s sl ln k:=⟨_,rfl⟩
  obtain ⟨x,hx⟩:∃ x,x = wdA s L T Mr ps sl ln k:=⟨_,rfl⟩
  obtain ⟨ot,hot⟩:∃ a,a = otA s L ps sl ln k x:=⟨_,rfl⟩
  obtain ⟨ql,hql⟩:∃ a,a = q * ln:=⟨_,rfl⟩
  obtain ⟨pp,hpp⟩:∃ a,a = ql + pl:=⟨_,rfl⟩
  obtain ⟨sp,hsp⟩:∃ a,a = sl * s:=⟨_,rfl⟩
  have hdl:hd < q:=by rw [hhd,hq]; exact Nat.mod_lt _ (by omega)
  have hqb:ql + q ≤ q * L:=by rw [hql,← Nat.mul_succ]; exact Nat.mul_le_mul_left _ hln
  have hqL:q * L ≤ 256 * 4:=by rw [hq]; exact Nat.mul_le_mul (by omega) hL
  have eah:ah = ql + hd:=by rw [hah,hql,hhd,hq]; rfl
  have hotl:ot < q * L:=by rw [hot,hq]; exact ot_lt x hs.1 hln
  have hahl:ah < q * L:=by omega
  have hppl:pp < q * L:=by omega
  have eqL:(q:Int) * (L:Int) = ((q * L:Nat):Int):=(Int.natCast_mul _ _).symm
  have z1:IntKind.i64.wrap ((sl:Int) * (q:Int)) = ((4 * sp:Nat):Int):=by
    have e:(sl:Int) * (q:Int) = ((4 * sp:Nat):Int):=by rw [hsp,hq,Nat.mul_left_comm]; exact (Int.natCast_mul _ _).symm
    rw [e,IntKind.wrap_i64]; omega
  obtain ⟨sq,hsq⟩:∃ a,a = 4 * sp:=⟨_,rfl⟩
  rw [← hsq] at z1
  have z2:(sq:Int) / 4 = (sp:Int) ∧ IntKind.i64.wrap (sp:Int) = (sp:Int):=⟨by omega,by rw [IntKind.wrap_i64]; omega⟩
  have z3:IntKind.i64.wrap ((sp:Int) + (k:Int)) = (pl:Int):=by rw [IntKind.wrap_i64]; omega
  have z4:IntKind.i64.wrap ((q:Int) * (ln:Int)) = (ql:Int):=by
    have e:(q:Int) * (ln:Int) = (ql:Int):=by rw [hql]; exact (Int.natCast_mul _ _).symm
    rw [e,IntKind.wrap_i64]; omega
  obtain ⟨a1,ha1⟩:∃ a,a = pl + q:=⟨_,rfl⟩
  obtain ⟨a2,ha2⟩:∃ a,a = a1 - 1:=⟨_,rfl⟩
  have z5:IntKind.i64.wrap ((pl:Int) + (q:Int)) = (a1:Int):=by rw [IntKind.wrap_i64]; omega
  have z6:IntKind.i64.wrap ((a1:Int) - 1) = (a2:Int):=by rw [IntKind.wrap_i64]; omega
  have z7:¬ q = 0 ∧ (a2:Int).tmod (q:Int) = (hd:Int):=by
    refine ⟨by omega,?_⟩
    have e:a2 = sl * s + k + (4 * s - 1):=by omega
    rw [Int.tmod_eq_emod_of_nonneg (by omega),hhd,← e,← hq]
    rfl
  have z8:IntKind.i64.wrap ((ql:Int) + (hd:Int)) = (ah:Int):=by rw [IntKind.wrap_i64]; omega
  have z9:(ah:Int) < (q:Int) * (L:Int):=by rw [eqL]; omega
  have z10:IntKind.i64.wrap ((ql:Int) + (pl:Int)) = (pp:Int):=by rw [IntKind.wrap_i64]; omega
  have z11:(pp:Int) < (q:Int) * (L:Int):=by rw [eqL]; omega
  have z12:(ot:Int) < (q:Int) * (L:Int):=by rw [eqL]; omega
  have epp:pp = 4 * s * ln + (sl * s + k):=by rw [hpp,hql,hple,hq]
  replace z1:=hideit z1
  replace z2:=hideit z2
  replace z3:=hideit z3
  replace z4:=hideit z4
  replace z5:=hideit z5
  replace z6:=hideit z6
  replace z7:=hideit z7
  replace z8:=hideit z8
  replace z9:=hideit z9
  replace z10:=hideit z10
  replace z11:=hideit z11
  replace z12:=hideit z12
  replace hahl:=hideit hahl
  replace hppl:=hideit hppl
  replace hotl:=hideit hotl
  replace hah:=hideit hah
  replace hx:=hideit hx
  replace hot:=hideit hot
  replace epp:=hideit epp
  replace hq:=hideit hq
  replace hs:=hideit hs
  clear hple hhd hql hpp hsp hdl hqb hqL eah eqL hsq ha1 ha2 hpl
  have hE:=hideit (Ext.refl w)
  have hM0:=hideit hM
  have hR0:=hideit hR
  replace hM:=hideit hM
  replace hR:=hideit hR
  go_enter Tryd.func35,Tryd.ntmps35
  go_upto_region 0 with (fail)
  replace hM:=hideit hM.out.drew
  replace hR:=hideit hR.out.drew
  replace hE:=hideit (Ext.draw hE.out)
  refine wp_region_lad (fun X=>Ext w.drew X) [(false,0),(false,1),(false,2),(false,3),(false,4),(false,5),(false,6),(false,7),(false,8),(false,9),(false,10),(false,11),(false,12),(false,13),(false,14),(false,15)] (by kernel_rfl) (by kernel_rfl) (by decide +kernel) (by decide +kernel) (by decide +kernel) (by decide +kernel) (Ext.refl _) ?_
  refine wpX_f _ (.pointer (some ⟨p,0,none⟩)) rfl rfl (fun X _=>by simp [go_sem]) ?_
  simp only [List.getElem_toArray,List.getElem_cons_zero,Act.put,List.setIfInBounds_toArray,List.set_cons_zero,List.set_cons_succ]
  refine wpX_f _ (.pointer (some ⟨p,0,none⟩)) rfl rfl (fun X _=>by simp [go_sem]) ?_
  simp only [jw,jz,kj,jk,jq,jv,jy]
  refine wpX_f _ (.pointer (some ⟨p,6,none⟩)) rfl rfl (fun X _=>by simp [go_sem]) ?_
  simp only [jw,jz,kj,jk,jq,jv,jy]
  refine wpX_f _ (.int .i64 (sl:Int)) rfl rfl (fun X hX=>by have m1:X.cell? ⟨p,6,none⟩ = some (.int .i64 (sl:Int)):=(hM.out.carry hX).1 6 (by decide); simp [go_sem,m1]) ?_
  simp only [jw,jz,kj,jk,jq,jv,jy]
  refine wpX_f _ (.pointer (some ⟨p,0,none⟩)) rfl rfl (fun X _=>by simp [go_sem]) ?_
  simp only [jw,jz,kj,jk,jq,jv,jy]
  refine wpX_f _ (.pointer (some ⟨p,0,none⟩)) rfl rfl (fun X _=>by simp [go_sem]) ?_
  simp only [jw,jz,kj,jk,jq,jv,jy]
  refine wpX_f _ (.pointer (some ⟨p,3,none⟩)) rfl rfl (fun X _=>by simp [go_sem]) ?_
  simp only [jw,jz,kj,jk,jq,jv,jy]
  refine wpX_f _ (.int .i64 (q:Int)) rfl rfl (fun X hX=>by have m2:X.cell? ⟨p,3,none⟩ = some (.int .i64 (q:Int)):=(hM.out.carry hX).1 3 (by decide); simp [go_sem,m2]) ?_
  simp only [jw,jz,kj,jk,jq,jv,jy]
  refine wpX_f _ (.int .i64 (sq:Int)) rfl rfl (fun X _=>by simp [go_sem,z1.out]) ?_
  simp only [jw,jz,kj,jk,jq,jv,jy]
  refine wpX_f _ (.int .i64 (sp:Int)) rfl rfl (fun X _=>by simp [go_sem,z2.out.1,z2.out.2]) ?_
  simp only [jw,jz,kj,jk,jq,jv,jy]
  refine wpX_f _ (.pointer (some ⟨p,0,none⟩)) rfl rfl (fun X _=>by simp [go_sem]) ?_
  simp only [jw,jz,kj,jk,jq,jv,jy]
  refine wpX_f _ (.pointer (some ⟨p,0,none⟩)) rfl rfl (fun X _=>by simp [go_sem]) ?_
  simp only [jw,jz,kj,jk,jq,jv,jy]
  refine wpX_f _ (.pointer (some ⟨p,8,none⟩)) rfl rfl (fun X _=>by simp [go_sem]) ?_
  simp only [jw,jz,kj,jk,jq,jv,jy]
  refine wpX_f _ (.int .i64 (k:Int)) rfl rfl (fun X hX=>by have m3:X.cell? ⟨p,8,none⟩ = some (.int .i64 (k:Int)):=(hM.out.carry hX).1 8 (by decide); simp [go_sem,m3]) ?_
  simp only [jw,jz,kj,jk,jq,jv,jy]
  refine wpX_f _ (.int .i64 (pl:Int)) rfl rfl (fun X _=>by simp [go_sem,z3.out]) ?_
  simp only [jw,jz,kj,jk,jq,jv,jy]
  refine wpX_f _ (.int .i64 (pl:Int)) rfl rfl (fun X _=>by simp [go_sem]) ?_
  simp only [jw,jz,kj,jk,jq,jv,jy]
  refine wpX_nil ?_
  go_upto_region 1 with (fail)
  refine wp_region_ladm Ext (fun X=>Ext w.drew X) (mkA w.drew.heap.size) [29] [] [(0,0),(0,1),(0,2),(0,3),(0,4),(0,5),(0,6),(0,7),(0,8),(0,9),(0,10),(0,11),(0,12),(0,13),(0,14),(0,15),(0,16),(0,17),(0,18),(0,19),(0,20),(0,21),(0,22),(0,23),(0,24),(0,25),(0,26),(0,27),(2,28),(1,29)] (by kernel_rfl) (by kernel_rfl) (by decide +kernel) (by decide +kernel) (by decide +kernel) (by decide +kernel) (mkA_cl _) (ext_clA w.drew) ((Ext.refl w.drew).draw) ?_
  refine wpQ_f _ (.pointer (some ⟨p,0,none⟩)) rfl rfl (fun X hX=>by simp [go_sem]) ?_
  simp only [List.getElem_toArray,List.getElem_cons_zero,Act.put,List.setIfInBounds_toArray,List.set_cons_zero,List.set_cons_succ]
  refine wpQ_f _ (.pointer (some ⟨p,0,none⟩)) rfl rfl (fun X hX=>by simp [go_sem]) ?_
  simp only [jw,jz,kj,jk,jq,jv,jy]
  refine wpQ_f _ (.pointer (some ⟨p,4,none⟩)) rfl rfl (fun X hX=>by simp [go_sem]) ?_
  simp only [jw,jz,kj,jk,jq,jv,jy]
  refine wpQ_f _ (.slice (some ⟨b,0,none⟩) (q * L) c) rfl rfl (fun X hX=>by have e:X.cell? ⟨p,4,none⟩ = some (.slice (some ⟨b,0,none⟩) (q * L) c):=(hM.out.carry hX).1 4 (by decide); simp [go_sem,e]) ?_
  simp only [jw,jz,kj,jk,jq,jv,jy]
  refine wpQ_f _ (.pointer (some ⟨p,0,none⟩)) rfl rfl (fun X hX=>by simp [go_sem]) ?_
  simp only [jw,jz,kj,jk,jq,jv,jy]
  refine wpQ_f _ (.pointer (some ⟨p,0,none⟩)) rfl rfl (fun X hX=>by simp [go_sem]) ?_
  simp only [jw,jz,kj,jk,jq,jv,jy]
  refine wpQ_f _ (.pointer (some ⟨p,3,none⟩)) rfl rfl (fun X hX=>by simp [go_sem]) ?_
  simp only [jw,jz,kj,jk,jq,jv,jy]
  refine wpQ_f _ (.int .i64 (q:Int)) rfl rfl (fun X hX=>by have e:X.cell? ⟨p,3,none⟩ = some (.int .i64 (q:Int)):=(hM.out.carry hX).1 3 (by decide); simp [go_sem,e]) ?_
  simp only [jw,jz,kj,jk,jq,jv,jy]
  refine wpQ_f _ (.pointer (some ⟨p,0,none⟩)) rfl rfl (fun X hX=>by simp [go_sem]) ?_
  simp only [jw,jz,kj,jk,jq,jv,jy]
  refine wpQ_f _ (.pointer (some ⟨p,0,none⟩)) rfl rfl (fun X hX=>by simp [go_sem]) ?_
  simp only [jw,jz,kj,jk,jq,jv,jy]
  refine wpQ_f _ (.pointer (some ⟨p,7,none⟩)) rfl rfl (fun X hX=>by simp [go_sem]) ?_
  simp only [jw,jz,kj,jk,jq,jv,jy]
  refine wpQ_f _ (.int .i64 (ln:Int)) rfl rfl (fun X hX=>by have e:X.cell? ⟨p,7,none⟩ = some (.int .i64 (ln:Int)):=(hM.out.carry hX).1 7 (by decide); simp [go_sem,e]) ?_
  simp only [jw,jz,kj,jk,jq,jv,jy]
  refine wpQ_f _ (.int .i64 (ql:Int)) rfl rfl (fun X hX=>by simp [go_sem,z4.out]) ?_
  simp only [jw,jz,kj,jk,jq,jv,jy]
  refine wpQ_f _ (.int .i64 (pl:Int)) rfl rfl (fun X hX=>by simp [go_sem]) ?_
  simp only [jw,jz,kj,jk,jq,jv,jy]
  refine wpQ_f _ (.pointer (some ⟨p,0,none⟩)) rfl rfl (fun X hX=>by simp [go_sem]) ?_
  simp only [jw,jz,kj,jk,jq,jv,jy]
  refine wpQ_f _ (.pointer (some ⟨p,0,none⟩)) rfl rfl (fun X hX=>by simp [go_sem]) ?_
  simp only [jw,jz,kj,jk,jq,jv,jy]
  refine wpQ_f _ (.pointer (some ⟨p,3,none⟩)) rfl rfl (fun X hX=>by simp [go_sem]) ?_
  simp only [jw,jz,kj,jk,jq,jv,jy]
  refine wpQ_f _ (.int .i64 (q:Int)) rfl rfl (fun X hX=>by have e:X.cell? ⟨p,3,none⟩ = some (.int .i64 (q:Int)):=(hM.out.carry hX).1 3 (by decide); simp [go_sem,e]) ?_
  simp only [jw,jz,kj,jk,jq,jv,jy]
  refine wpQ_f _ (.int .i64 (a1:Int)) rfl rfl (fun X hX=>by simp [go_sem,z5.out]) ?_
  simp only [jw,jz,kj,jk,jq,jv,jy]
  refine wpQ_f _ (.int .i64 (a2:Int)) rfl rfl (fun X hX=>by simp [go_sem,z6.out]) ?_
  simp only [jw,jz,kj,jk,jq,jv,jy]
  refine wpQ_f _ (.pointer (some ⟨p,0,none⟩)) rfl rfl (fun X hX=>by simp [go_sem]) ?_
  simp only [jw,jz,kj,jk,jq,jv,jy]
  refine wpQ_f _ (.pointer (some ⟨p,0,none⟩)) rfl rfl (fun X hX=>by simp [go_sem]) ?_
  simp only [jw,jz,kj,jk,jq,jv,jy]
  refine wpQ_f _ (.pointer (some ⟨p,3,none⟩)) rfl rfl (fun X hX=>by simp [go_sem]) ?_
  simp only [jw,jz,kj,jk,jq,jv,jy]
  refine wpQ_f _ (.int .i64 (q:Int)) rfl rfl (fun X hX=>by have e:X.cell? ⟨p,3,none⟩ = some (.int .i64 (q:Int)):=(hM.out.carry hX).1 3 (by decide); simp [go_sem,e]) ?_
  simp only [jw,jz,kj,jk,jq,jv,jy]
  refine wpQ_f _ (.int .i64 (hd:Int)) rfl rfl (fun X hX=>by simp [go_sem,z7.out.1,z7.out.2]) ?_
  simp only [jw,jz,kj,jk,jq,jv,jy]
  refine wpQ_f _ (.int .i64 (ah:Int)) rfl rfl (fun X hX=>by simp [go_sem,z8.out]) ?_
  simp only [jw,jz,kj,jk,jq,jv,jy]
  refine wpQ_f _ (.pointer (some ⟨b,ah * 128,none⟩)) rfl rfl (fun X hX=>by simp [go_sem,z9.out,add00]) ?_
  simp only [jw,jz,kj,jk,jq,jv,jy]
  refine wpQ_f _ (.agg (row 128 (wv (pgA Mr ah))).toArray) rfl rfl (fun X hX=>xload 24 (.tmp 49) rfl b (ah * 128) 128 _ rfl (rm_range (hR.out.carry hX) ah hahl.out) Tryd.underlying24 rfl infoPg) ?_
  simp only [jw,jz,kj,jk,jq,jv,jy]
  refine wpQ_m _ rfl rfl (fun X hX=>⟨.pointer (some ⟨X.heap.size,0,none⟩),X.alloc (.cells (row 128 (wv fun _=>0#64)).toArray 24),xalloc 24 _ rfl (zero31p _),⟨X.heap.size,rfl,Below.size hX,RowAt.new X 128 (wv fun _=>0#64) 24⟩,(Below.refl _ _).alloc (Nat.le_refl _) _⟩) ?_
  rintro v5 ⟨_,_,bh,rfl,hbhb,_⟩
  simp only [jw,jz,kj,jk,jq,jv,jy]
  refine wpQ_st _ rfl rfl fun X hX=>?_
  obtain ⟨hX1,b',f5,_,R5⟩:=hX
  injection f5 with f5
  injection f5 with f5
  injection f5 with f5
  subst f5
  have N0:=hideit (R5.cells (g':=wv (pgA Mr ah)))
  have NE:=hideit (below_setCells bh hbhb (row 128 (wv (pgA Mr ah))) 0 _ hX1)
  refine ⟨X.setCells bh 0 (row 128 (wv (pgA Mr ah))),xstore 24 (.tmp 3) (.tmp 50) rfl bh 128 _ (wv (pgA Mr ah)) rfl rfl R5 infoPg (fun _ _=>rfl),fun Y=>Y = X.setCells bh 0 (row 128 (wv (pgA Mr ah))),rfl,.inl (by simp),?_⟩
  simp only [List.getElem_toArray,List.getElem_cons_zero,List.getElem_cons_succ,Act.put]
  refine wpQ_nil fun Y4 hY=>?_
  rw [← hY] at N0 NE
  clear hY R5 hX1
  have Dbh_p:Hid (p ≠ bh):=Nat.ne_of_lt (Nat.lt_of_lt_of_le hM.out.2.2 hbhb)
  replace hM:=hideit (hM.out.carry NE.out)
  have Dbh_b:Hid (b ≠ bh):=Nat.ne_of_lt (Nat.lt_of_lt_of_le hR.out.2.2 hbhb)
  replace hR:=hideit (hR.out.carry NE.out)
  have hszbh:Hid (w.heap.size ≤ bh):=Nat.le_trans (Below.size hE.out) hbhb
  have Hbh:=N0
  replace hE:=hideit (Ext.trans hE.out NE.out)
  clear N0 NE hbhb
  go_upto_region 2 with (fail)
  refine wp_region_lit ?_
  refine xm [some (.pointer (some ⟨p,0,none⟩))] (by kernel_rfl) (by simp [xr,go_sem]) ?_
  simp only [xw,p0,p1,p2,p3]
  refine wpList_run rfl (.agg (row 128 (wv (pgA Mr ah))).toArray) (xload 24 (.tmp 3) rfl bh 0 128 _ rfl Hbh.out.range Tryd.underlying24 rfl infoPg) ?_
  simp only [jk,jq,jv,jy]
  refine wpList_call rfl (by simp [go_sem]) ((rword_any p T M L q b c ps sl ln k s ah Mr x Y4 hM.out hq.out hs.out (by have:=hs.out; omega) hL hah.out hx.out).mono ?_)
  rintro e y11 ⟨rfl,hX12⟩
  refine ⟨_,rfl,?_⟩
  simp only [jk,jq,jv,jy]
  replace hM:=hideit (hM.out.carry hX12)
  replace hR:=hideit (hR.out.carry hX12)
  replace Hbh:=hideit (Hbh.out.carry hX12)
  replace hE:=hideit (Ext.trans hE.out hX12)
  clear hX12
  refine xm [some (.int .u64 (x.toNat:Int))] (by kernel_rfl) (by simp [xr,go_sem]) ?_
  simp only [xw,p0,p1,p2,p3]
  go_upto_region 3 with (fail)
  refine wp_region_ladm Ext (fun X=>Ext y11 X) (mkA y11.heap.size) [12] [] [(0,0),(0,1),(0,2),(0,3),(0,4),(0,5),(0,6),(1,7),(0,8),(0,9),(1,10),(2,11),(1,12)] (by kernel_rfl) (by kernel_rfl) (by decide +kernel) (by decide +kernel) (by decide +kernel) (by decide +kernel) (mkA_cl _) (ext_clA y11) ((Ext.refl y11).draw) ?_
  refine wpQ_f _ (.agg (row 128 (wv (pgA Mr ah))).toArray) rfl rfl (fun X hX=>xload 24 (.tmp 3) rfl bh 0 128 _ rfl (Hbh.out.carry hX).range Tryd.underlying24 rfl infoPg) ?_
  simp only [List.getElem_toArray,List.getElem_cons_zero,Act.put,List.setIfInBounds_toArray,List.set_cons_zero,List.set_cons_succ]
  refine wpQ_f _ (.pointer (some ⟨p,0,none⟩)) rfl rfl (fun X hX=>by simp [go_sem]) ?_
  simp only [jw,jz,kj,jk,jq,jv,jy]
  refine wpQ_f _ (.pointer (some ⟨p,0,none⟩)) rfl rfl (fun X hX=>by simp [go_sem]) ?_
  simp only [jw,jz,kj,jk,jq,jv,jy]
  refine wpQ_f _ (.pointer (some ⟨p,4,none⟩)) rfl rfl (fun X hX=>by simp [go_sem]) ?_
  simp only [jw,jz,kj,jk,jq,jv,jy]
  refine wpQ_f _ (.slice (some ⟨b,0,none⟩) (q * L) c) rfl rfl (fun X hX=>by have e:X.cell? ⟨p,4,none⟩ = some (.slice (some ⟨b,0,none⟩) (q * L) c):=(hM.out.carry hX).1 4 (by decide); simp [go_sem,e]) ?_
  simp only [jw,jz,kj,jk,jq,jv,jy]
  refine wpQ_f _ (.pointer (some ⟨p,0,none⟩)) rfl rfl (fun X hX=>by simp [go_sem]) ?_
  simp only [jw,jz,kj,jk,jq,jv,jy]
  refine wpQ_f _ (.int .u64 (x.toNat:Int)) rfl rfl (fun X hX=>by simp [go_sem]) ?_
  simp only [jw,jz,kj,jk,jq,jv,jy]
  refine wpQ_call (f:=56) (args := #[.pointer (some ⟨p,0,none⟩),.int .u64 (x.toNat:Int)]) _ rfl rfl (fun X hX=>by simp [go_sem]) (fun X hX=>((by have h:=roth_any p T M L b c ps sl ln k s x X (by have h:=hM.out.carry hX; rw [hq.out] at h; exact h) hs.out hsl (by have:=hs.out; omega) hln hL hk0.out; rw [← hot.out] at h; exact h:Calls Tryd.prog 56 _ X fun e w'=>e = .returned (.int .i64 (ot:Int)) ∧ Ext X w')).mono ?_)
  rintro e u14 ⟨rfl,e9⟩
  refine ⟨_,rfl,fun Y=>Ext y11 Y,Ext.trans hX e9,.inr (.inr ⟨fun Y hY=>hY,e9,ext_clA y11⟩),?_⟩
  simp only [jw,jz,kj,jk,jq,jv,jy]
  clear e9 hX
  refine wpQ_f _ (.pointer (some ⟨b,ot * 128,none⟩)) rfl rfl (fun X hX=>by simp [go_sem,z12.out,add00]) ?_
  simp only [jw,jz,kj,jk,jq,jv,jy]
  refine wpQ_f _ (.agg (row 128 (wv (pgA Mr ot))).toArray) rfl rfl (fun X hX=>xload 24 (.tmp 62) rfl b (ot * 128) 128 _ rfl (rm_range (hR.out.carry hX) ot hotl.out) Tryd.underlying24 rfl infoPg) ?_
  simp only [jw,jz,kj,jk,jq,jv,jy]
  refine wpQ_call (f:=55) (args := #[.agg (row 128 (wv (pgA Mr ah))).toArray,.agg (row 128 (wv (pgA Mr ot))).toArray]) _ rfl rfl (fun X hX=>by simp [go_sem]) (fun X hX=>(rpages_any (pgA Mr ah) (pgA Mr ot) X).mono ?_)
  rintro e u16 ⟨rfl,e9⟩
  refine ⟨_,rfl,fun Y=>Ext y11 Y,Ext.trans hX e9,.inr (.inr ⟨fun Y hY=>hY,e9,ext_clA y11⟩),?_⟩
  simp only [jw,jz,kj,jk,jq,jv,jy]
  clear e9 hX
  refine wpQ_m _ rfl rfl (fun X hX=>⟨.pointer (some ⟨X.heap.size,0,none⟩),X.alloc (.cells (row 128 (wv fun _=>0#64)).toArray 24),xalloc 24 _ rfl (zero31p _),⟨X.heap.size,rfl,Below.size hX,RowAt.new X 128 (wv fun _=>0#64) 24⟩,(Below.refl _ _).alloc (Nat.le_refl _) _⟩) ?_
  rintro v5 ⟨_,_,bx,rfl,hbxb,_⟩
  simp only [jw,jz,kj,jk,jq,jv,jy]
  refine wpQ_st _ rfl rfl fun X hX=>?_
  obtain ⟨hX1,b',f5,_,R5⟩:=hX
  injection f5 with f5
  injection f5 with f5
  injection f5 with f5
  subst f5
  have N0:=hideit (R5.cells (g':=wv (pagesF (pgA Mr ah) (pgA Mr ot))))
  have NE:=hideit (below_setCells bx hbxb (row 128 (wv (pagesF (pgA Mr ah) (pgA Mr ot)))) 0 _ hX1)
  refine ⟨X.setCells bx 0 (row 128 (wv (pagesF (pgA Mr ah) (pgA Mr ot)))),xstore 24 (.tmp 5) (.tmp 64) rfl bx 128 _ (wv (pagesF (pgA Mr ah) (pgA Mr ot))) rfl rfl R5 infoPg (fun _ _=>rfl),fun Y=>Y = X.setCells bx 0 (row 128 (wv (pagesF (pgA Mr ah) (pgA Mr ot)))),rfl,.inl (by simp),?_⟩
  simp only [List.getElem_toArray,List.getElem_cons_zero,List.getElem_cons_succ,Act.put]
  refine wpQ_nil fun Y13 hY=>?_
  rw [← hY] at N0 NE
  clear hY R5 hX1
  have Dbx_p:Hid (p ≠ bx):=Nat.ne_of_lt (Nat.lt_of_lt_of_le hM.out.2.2 hbxb)
  replace hM:=hideit (hM.out.carry NE.out)
  have Dbx_b:Hid (b ≠ bx):=Nat.ne_of_lt (Nat.lt_of_lt_of_le hR.out.2.2 hbxb)
  replace hR:=hideit (hR.out.carry NE.out)
  have Dbx_bh:Hid (bh ≠ bx):=Nat.ne_of_lt (Nat.lt_of_lt_of_le Hbh.out.2.2 hbxb)
  replace Hbh:=hideit (Hbh.out.carry NE.out)
  have hszbx:Hid (w.heap.size ≤ bx):=Nat.le_trans (Below.size hE.out) hbxb
  have Hbx:=N0
  replace hE:=hideit (Ext.trans hE.out NE.out)
  clear N0 NE hbxb
  by_cases h0':0 < ps
  · have h0:Hid (0 < ps):=h0'
    go_upto_region 4 with (fail)
    refine wp_region_lit ?_
    have m18:Y13.cell? ⟨p,5,none⟩ = some (.int .i64 (ps:Int)):=hM.out.1 5 (by decide)
    refine xm [some (.pointer (some ⟨p,0,none⟩)),some (.pointer (some ⟨p,0,none⟩)),some (.pointer (some ⟨p,5,none⟩)),some (.int .i64 (ps:Int)),some (.bool true)] (by kernel_rfl) (by simp [xr,go_sem,m18,h0.out]) ?_
    simp only [xw,p0,p1,p2,p3]
    clear m18
    go_upto_region 5 with (fail)
    refine wp_region_ladm Ext (fun X=>Ext Y13 X) (mkA Y13.heap.size) [18] [] [(0,0),(0,1),(0,2),(0,3),(0,4),(0,5),(0,6),(0,7),(0,8),(0,9),(0,10),(0,11),(0,12),(0,13),(0,14),(0,15),(0,16),(2,17),(1,18)] (by kernel_rfl) (by kernel_rfl) (by decide +kernel) (by decide +kernel) (by decide +kernel) (by decide +kernel) (mkA_cl _) (ext_clA Y13) ((Ext.refl Y13).draw) ?_
    refine wpQ_f _ (.pointer (some ⟨p,0,none⟩)) rfl rfl (fun X hX=>by simp [go_sem]) ?_
    simp only [List.getElem_toArray,List.getElem_cons_zero,Act.put,List.setIfInBounds_toArray,List.set_cons_zero,List.set_cons_succ]
    refine wpQ_f _ (.pointer (some ⟨p,0,none⟩)) rfl rfl (fun X hX=>by simp [go_sem]) ?_
    simp only [jw,jz,kj,jk,jq,jv,jy]
    refine wpQ_f _ (.pointer (some ⟨p,4,none⟩)) rfl rfl (fun X hX=>by simp [go_sem]) ?_
    simp only [jw,jz,kj,jk,jq,jv,jy]
    refine wpQ_f _ (.slice (some ⟨b,0,none⟩) (q * L) c) rfl rfl (fun X hX=>by have e:X.cell? ⟨p,4,none⟩ = some (.slice (some ⟨b,0,none⟩) (q * L) c):=(hM.out.carry hX).1 4 (by decide); simp [go_sem,e]) ?_
    simp only [jw,jz,kj,jk,jq,jv,jy]
    refine wpQ_f _ (.pointer (some ⟨p,0,none⟩)) rfl rfl (fun X hX=>by simp [go_sem]) ?_
    simp only [jw,jz,kj,jk,jq,jv,jy]
    refine wpQ_f _ (.pointer (some ⟨p,0,none⟩)) rfl rfl (fun X hX=>by simp [go_sem]) ?_
    simp only [jw,jz,kj,jk,jq,jv,jy]
    refine wpQ_f _ (.pointer (some ⟨p,3,none⟩)) rfl rfl (fun X hX=>by simp [go_sem]) ?_
    simp only [jw,jz,kj,jk,jq,jv,jy]
    refine wpQ_f _ (.int .i64 (q:Int)) rfl rfl (fun X hX=>by have e:X.cell? ⟨p,3,none⟩ = some (.int .i64 (q:Int)):=(hM.out.carry hX).1 3 (by decide); simp [go_sem,e]) ?_
    simp only [jw,jz,kj,jk,jq,jv,jy]
    refine wpQ_f _ (.pointer (some ⟨p,0,none⟩)) rfl rfl (fun X hX=>by simp [go_sem]) ?_
    simp only [jw,jz,kj,jk,jq,jv,jy]
    refine wpQ_f _ (.pointer (some ⟨p,0,none⟩)) rfl rfl (fun X hX=>by simp [go_sem]) ?_
    simp only [jw,jz,kj,jk,jq,jv,jy]
    refine wpQ_f _ (.pointer (some ⟨p,7,none⟩)) rfl rfl (fun X hX=>by simp [go_sem]) ?_
    simp only [jw,jz,kj,jk,jq,jv,jy]
    refine wpQ_f _ (.int .i64 (ln:Int)) rfl rfl (fun X hX=>by have e:X.cell? ⟨p,7,none⟩ = some (.int .i64 (ln:Int)):=(hM.out.carry hX).1 7 (by decide); simp [go_sem,e]) ?_
    simp only [jw,jz,kj,jk,jq,jv,jy]
    refine wpQ_f _ (.int .i64 (ql:Int)) rfl rfl (fun X hX=>by simp [go_sem,z4.out]) ?_
    simp only [jw,jz,kj,jk,jq,jv,jy]
    refine wpQ_f _ (.int .i64 (pl:Int)) rfl rfl (fun X hX=>by simp [go_sem]) ?_
    simp only [jw,jz,kj,jk,jq,jv,jy]
    refine wpQ_f _ (.int .i64 (pp:Int)) rfl rfl (fun X hX=>by simp [go_sem,z10.out]) ?_
    simp only [jw,jz,kj,jk,jq,jv,jy]
    refine wpQ_f _ (.pointer (some ⟨b,pp * 128,none⟩)) rfl rfl (fun X hX=>by simp [go_sem,z11.out,add00]) ?_
    simp only [jw,jz,kj,jk,jq,jv,jy]
    refine wpQ_f _ (.agg (row 128 (wv (pgA Mr pp))).toArray) rfl rfl (fun X hX=>xload 24 (.tmp 85) rfl b (pp * 128) 128 _ rfl (rm_range (hR.out.carry hX) pp hppl.out) Tryd.underlying24 rfl infoPg) ?_
    simp only [jw,jz,kj,jk,jq,jv,jy]
    refine wpQ_m _ rfl rfl (fun X hX=>⟨.pointer (some ⟨X.heap.size,0,none⟩),X.alloc (.cells (row 128 (wv fun _=>0#64)).toArray 24),xalloc 24 _ rfl (zero31p _),⟨X.heap.size,rfl,Below.size hX,RowAt.new X 128 (wv fun _=>0#64) 24⟩,(Below.refl _ _).alloc (Nat.le_refl _) _⟩) ?_
    rintro v5 ⟨_,_,bo,rfl,hbob,_⟩
    simp only [jw,jz,kj,jk,jq,jv,jy]
    refine wpQ_st _ rfl rfl fun X hX=>?_
    obtain ⟨hX1,b',f5,_,R5⟩:=hX
    injection f5 with f5
    injection f5 with f5
    injection f5 with f5
    subst f5
    have N0:=hideit (R5.cells (g':=wv (pgA Mr pp)))
    have NE:=hideit (below_setCells bo hbob (row 128 (wv (pgA Mr pp))) 0 _ hX1)
    refine ⟨X.setCells bo 0 (row 128 (wv (pgA Mr pp))),xstore 24 (.tmp 6) (.tmp 86) rfl bo 128 _ (wv (pgA Mr pp)) rfl rfl R5 infoPg (fun _ _=>rfl),fun Y=>Y = X.setCells bo 0 (row 128 (wv (pgA Mr pp))),rfl,.inl (by simp),?_⟩
    simp only [List.getElem_toArray,List.getElem_cons_zero,List.getElem_cons_succ,Act.put]
    refine wpQ_nil fun Y19 hY=>?_
    rw [← hY] at N0 NE
    clear hY R5 hX1
    have Dbo_p:Hid (p ≠ bo):=Nat.ne_of_lt (Nat.lt_of_lt_of_le hM.out.2.2 hbob)
    replace hM:=hideit (hM.out.carry NE.out)
    have Dbo_b:Hid (b ≠ bo):=Nat.ne_of_lt (Nat.lt_of_lt_of_le hR.out.2.2 hbob)
    replace hR:=hideit (hR.out.carry NE.out)
    have Dbo_bh:Hid (bh ≠ bo):=Nat.ne_of_lt (Nat.lt_of_lt_of_le Hbh.out.2.2 hbob)
    replace Hbh:=hideit (Hbh.out.carry NE.out)
    have Dbo_bx:Hid (bx ≠ bo):=Nat.ne_of_lt (Nat.lt_of_lt_of_le Hbx.out.2.2 hbob)
    replace Hbx:=hideit (Hbx.out.carry NE.out)
    have hszbo:Hid (w.heap.size ≤ bo):=Nat.le_trans (Below.size hE.out) hbob
    have Hbo:=N0
    replace hE:=hideit (Ext.trans hE.out NE.out)
    clear N0 NE hbob
    go_upto_region 6 with (fail)
    refine wp_region_lit ?_
    refine xm [some (.int .i64 0)] (by kernel_rfl) (by simp [xr,go_sem]) ?_
    simp only [xw,p0,p1,p2,p3]
    go_upto_region 7 with (fail)
    go_loopw [7] (fun i X=>∃ n:Nat,n ≤ 128 ∧ i = .int .i64 (n:Int) ∧ RowAt bx 128 (wv (lpX (pagesF (pgA Mr ah) (pgA Mr ot)) (pgA Mr pp) n)) X ∧ RowAt bo 128 (wv (pgA Mr pp)) X ∧ Ext w X) (fun i _=>200 - (intOf i).toNat)
    case atStart=>exact ⟨0,Nat.zero_le _,rfl,Hbx.out.congr (fun j _=>by unfold wv lpX; rw [if_neg (Nat.not_lt_zero _)]),Hbo.out,hE.out⟩
    case round=>
      clear hM hR Hbh Hbx Hbo hE
      obtain ⟨n,hn,rfl,Hbx,Hbo,hE⟩:=hrel
      replace Hbx:=hideit Hbx
      replace Hbo:=hideit Hbo
      replace hE:=hideit hE
      by_cases hlt:n < 128
      · have k1:(n:Int) < 128:=by omega
        have en:IntKind.i64.wrap ((n:Int) + 1) = ((n + 1:Nat):Int):=by rw [IntKind.wrap_i64]; omega
        replace en:=hideit en
        go_upto_region 7 with (fail)
        refine wp_region_lit ?_
        refine xm [some (.int .i64 (n:Int)),some (.bool true)] (by kernel_rfl) (by simp [xr,go_sem,k1]) ?_
        simp only [xw,p0,p1,p2,p3]
        go_upto_region 9 with (fail)
        replace Hbx:=hideit Hbx.out.drew
        replace Hbo:=hideit Hbo.out.drew
        replace hE:=hideit (Ext.draw hE.out)
        refine wp_region_ladz (fun X=>Ext wr.drew X) [9] [(false,0),(false,1),(false,2),(false,3),(false,4),(false,5),(false,6),(false,7),(false,8),(true,9)] (by kernel_rfl) (by kernel_rfl) (by decide +kernel) (by decide +kernel) (by decide +kernel) (by decide +kernel) (Ext.refl _) ?_
        refine wpZ_f _ (.int .i64 (n:Int)) rfl rfl (fun X _=>by simp [go_sem]) ?_
        simp only [List.getElem_toArray,List.getElem_cons_zero,Act.put,List.setIfInBounds_toArray,List.set_cons_zero,List.set_cons_succ]
        refine wpZ_f _ (.int .i64 (n:Int)) rfl rfl (fun X _=>by simp [go_sem]) ?_
        simp only [jw,jz,kj,jk,jq,jv,jy]
        refine wpZ_f _ (.pointer (some ⟨bx,n,none⟩)) rfl rfl (fun X _=>by simp [go_sem,k1]) ?_
        simp only [jw,jz,kj,jk,jq,jv,jy]
        refine wpZ_f _ (.int .u64 ((((pagesF (pgA Mr ah) (pgA Mr ot)) n)).toNat:Int)) rfl rfl (fun X hX=>(by have e:X.cell? ⟨bx,n,none⟩ = some (.int .u64 ((((pagesF (pgA Mr ah) (pgA Mr ot)) n)).toNat:Int)):=(by have e:=(Hbx.out.carry hX).1 n hlt; unfold wv lpX at e; rw [if_neg (Nat.lt_irrefl _)] at e; exact e); simp [go_sem,e])) ?_
        simp only [jw,jz,kj,jk,jq,jv,jy]
        refine wpZ_f _ (.int .i64 (n:Int)) rfl rfl (fun X _=>by simp [go_sem]) ?_
        simp only [jw,jz,kj,jk,jq,jv,jy]
        refine wpZ_f _ (.pointer (some ⟨bo,n,none⟩)) rfl rfl (fun X _=>by simp [go_sem,k1]) ?_
        simp only [jw,jz,kj,jk,jq,jv,jy]
        refine wpZ_f _ (.int .u64 ((((pgA Mr pp) n)).toNat:Int)) rfl rfl (fun X hX=>(by have e:X.cell? ⟨bo,n,none⟩ = some (.int .u64 ((((pgA Mr pp) n)).toNat:Int)):=(Hbo.out.carry hX).1 n hlt; simp [go_sem,e])) ?_
        simp only [jw,jz,kj,jk,jq,jv,jy]
        refine wpZ_f _ (.int .u64 ((xW ((pagesF (pgA Mr ah) (pgA Mr ot)) n) ((pgA Mr pp) n)).toNat:Int)) rfl rfl (fun X _=>by simp [go_sem,xW_fact ((pagesF (pgA Mr ah) (pgA Mr ot)) n) ((pgA Mr pp) n)]) ?_
        simp only [jw,jz,kj,jk,jq,jv,jy]
        refine wpZ_f _ (.pointer (some ⟨bx,n,none⟩)) rfl rfl (fun X _=>by simp [go_sem,k1]) ?_
        simp only [jw,jz,kj,jk,jq,jv,jy]
        have N0:=hideit (lpX_step Hbx.out)
        have N1:=hideit (Hbo.out.other ⟨bx,n,none⟩ (.int .u64 ((xW ((pagesF (pgA Mr ah) (pgA Mr ot)) n) ((pgA Mr pp) n)).toNat:Int)) Dbo_bx.out)
        have NE:=hideit (hE.out.setCell (p:=⟨bx,n,none⟩) hszbx.out (.int .u64 ((xW ((pagesF (pgA Mr ah) (pgA Mr ot)) n) ((pgA Mr pp) n)).toNat:Int)))
        have M0:wr.drew.cell? ⟨bx,n,none⟩ = some (.int .u64 (((pagesF (pgA Mr ah) (pgA Mr ot)) n).toNat:Int)):=(by have e:=Hbx.out.1 n hlt; unfold wv lpX at e; rw [if_neg (Nat.lt_irrefl _)] at e; exact e)
        have M1:wr.drew.frozen? ⟨bx,n,none⟩ = false:=Hbx.out.2.1 n hlt
        refine wpZ_st _ (wr.drew.setCell ⟨bx,n,none⟩ (.int .u64 ((xW ((pagesF (pgA Mr ah) (pgA Mr ot)) n) ((pgA Mr pp) n)).toNat:Int))) rfl rfl (by simp [go_sem,M0,M1]) (fun _=>True) (.inl (by simp)) trivial ?_
        simp only [List.getElem_toArray,List.getElem_cons_zero,List.getElem_cons_succ,Act.put]
        generalize wr.drew.setCell ⟨bx,n,none⟩ (.int .u64 ((xW ((pagesF (pgA Mr ah) (pgA Mr ot)) n) ((pgA Mr pp) n)).toNat:Int)) = x9 at N0 N1 NE ⊢
        clear M0 M1
        replace Hbx:=N0
        replace Hbo:=N1
        replace hE:=NE
        clear N0 N1 NE
        refine wpZ_nil ?_
        go_upto_region 8 with (fail)
        refine wp_region_lit ?_
        refine xm [some (.int .i64 (n:Int)),some (.int .i64 ((n + 1:Nat):Int)),some (.int .i64 ((n + 1:Nat):Int))] (by kernel_rfl) (by simp [xr,go_sem,en.out]) ?_
        simp only [xw,p0,p1,p2,p3]
        go_wp2
        refine ⟨⟨n + 1,by omega,rfl,Hbx.out,Hbo.out,hE.out⟩,by simp [intOf]; omega⟩
      · obtain rfl:n = 128:=by omega
        have hM:=hideit (hM0.out.carry hE.out)
        have hR:=hideit (hR0.out.carry hE.out)
        replace Hbx:Hid (RowAt bx 128 (wv (xrF (pagesF (pgA Mr ah) (pgA Mr ot)) (pgA Mr pp))) wr):=Hbx.out.congr fun j hj=>by unfold wv lpX; rw [if_pos hj]; rfl
        clear Hbo
        go_upto_region 7 with (fail)
        refine wp_region_lit ?_
        refine xm [some (.int .i64 ((128:Nat):Int)),some (.bool false)] (by kernel_rfl) (by simp [xr,go_sem]) ?_
        simp only [xw,p0,p1,p2,p3]
        go_upto_region 10 with (fail)
        replace hM:=hideit hM.out.drew
        replace hR:=hideit hR.out.drew
        replace Hbx:=hideit Hbx.out.drew
        replace hE:=hideit (Ext.draw hE.out)
        refine wp_region_ladz (fun X=>Ext wr.drew X) [17] [(false,0),(false,1),(false,2),(false,3),(false,4),(false,5),(false,6),(false,7),(false,8),(false,9),(false,10),(false,11),(false,12),(false,13),(false,14),(false,15),(false,16),(true,17)] (by kernel_rfl) (by kernel_rfl) (by decide +kernel) (by decide +kernel) (by decide +kernel) (by decide +kernel) (Ext.refl _) ?_
        refine wpZ_f _ (.pointer (some ⟨p,0,none⟩)) rfl rfl (fun X _=>by simp [go_sem]) ?_
        simp only [List.getElem_toArray,List.getElem_cons_zero,Act.put,List.setIfInBounds_toArray,List.set_cons_zero,List.set_cons_succ]
        refine wpZ_f _ (.pointer (some ⟨p,0,none⟩)) rfl rfl (fun X _=>by simp [go_sem]) ?_
        simp only [jw,jz,kj,jk,jq,jv,jy]
        refine wpZ_f _ (.pointer (some ⟨p,4,none⟩)) rfl rfl (fun X _=>by simp [go_sem]) ?_
        simp only [jw,jz,kj,jk,jq,jv,jy]
        refine wpZ_f _ (.slice (some ⟨b,0,none⟩) (q * L) c) rfl rfl (fun X hX=>by have m24:X.cell? ⟨p,4,none⟩ = some (.slice (some ⟨b,0,none⟩) (q * L) c):=(hM.out.carry hX).1 4 (by decide); simp [go_sem,m24]) ?_
        simp only [jw,jz,kj,jk,jq,jv,jy]
        refine wpZ_f _ (.pointer (some ⟨p,0,none⟩)) rfl rfl (fun X _=>by simp [go_sem]) ?_
        simp only [jw,jz,kj,jk,jq,jv,jy]
        refine wpZ_f _ (.pointer (some ⟨p,0,none⟩)) rfl rfl (fun X _=>by simp [go_sem]) ?_
        simp only [jw,jz,kj,jk,jq,jv,jy]
        refine wpZ_f _ (.pointer (some ⟨p,3,none⟩)) rfl rfl (fun X _=>by simp [go_sem]) ?_
        simp only [jw,jz,kj,jk,jq,jv,jy]
        refine wpZ_f _ (.int .i64 (q:Int)) rfl rfl (fun X hX=>by have m25:X.cell? ⟨p,3,none⟩ = some (.int .i64 (q:Int)):=(hM.out.carry hX).1 3 (by decide); simp [go_sem,m25]) ?_
        simp only [jw,jz,kj,jk,jq,jv,jy]
        refine wpZ_f _ (.pointer (some ⟨p,0,none⟩)) rfl rfl (fun X _=>by simp [go_sem]) ?_
        simp only [jw,jz,kj,jk,jq,jv,jy]
        refine wpZ_f _ (.pointer (some ⟨p,0,none⟩)) rfl rfl (fun X _=>by simp [go_sem]) ?_
        simp only [jw,jz,kj,jk,jq,jv,jy]
        refine wpZ_f _ (.pointer (some ⟨p,7,none⟩)) rfl rfl (fun X _=>by simp [go_sem]) ?_
        simp only [jw,jz,kj,jk,jq,jv,jy]
        refine wpZ_f _ (.int .i64 (ln:Int)) rfl rfl (fun X hX=>by have m26:X.cell? ⟨p,7,none⟩ = some (.int .i64 (ln:Int)):=(hM.out.carry hX).1 7 (by decide); simp [go_sem,m26]) ?_
        simp only [jw,jz,kj,jk,jq,jv,jy]
        refine wpZ_f _ (.int .i64 (ql:Int)) rfl rfl (fun X _=>by simp [go_sem,z4.out]) ?_
        simp only [jw,jz,kj,jk,jq,jv,jy]
        refine wpZ_f _ (.int .i64 (pl:Int)) rfl rfl (fun X _=>by simp [go_sem]) ?_
        simp only [jw,jz,kj,jk,jq,jv,jy]
        refine wpZ_f _ (.int .i64 (pp:Int)) rfl rfl (fun X _=>by simp [go_sem,z10.out]) ?_
        simp only [jw,jz,kj,jk,jq,jv,jy]
        refine wpZ_f _ (.agg (row 128 (wv (xrF (pagesF (pgA Mr ah) (pgA Mr ot)) (pgA Mr pp)))).toArray) rfl rfl (fun X hX=>xload 24 (.tmp 5) rfl bx 0 128 _ rfl (Hbx.out.carry hX).range Tryd.underlying24 rfl infoPg) ?_
        simp only [jw,jz,kj,jk,jq,jv,jy]
        refine wpZ_f _ (.pointer (some ⟨b,pp * 128,none⟩)) rfl rfl (fun X _=>by simp [go_sem,z11.out,add00]) ?_
        simp only [jw,jz,kj,jk,jq,jv,jy]
        have N0:=hideit (rm_set hR.out pp hppl.out ((xrF (pagesF (pgA Mr ah) (pgA Mr ot)) (pgA Mr pp))))
        have N1:=hideit (hM.out.cellsOther (Ne.symm hpb) (row 128 (wv (xrF (pagesF (pgA Mr ah) (pgA Mr ot)) (pgA Mr pp)))) (pp * 128))
        have N2:=hideit (below_setCells b hB (row 128 (wv (xrF (pagesF (pgA Mr ah) (pgA Mr ot)) (pgA Mr pp)))) (pp * 128) _ (Below.mono hE.out hBw))
        refine wpZ_st _ (wr.drew.setCells b (pp * 128) (row 128 (wv (xrF (pagesF (pgA Mr ah) (pgA Mr ot)) (pgA Mr pp))))) rfl rfl (xstoreM 24 (.tmp 116) (.tmp 115) rfl b (128 * (q * L)) (pp * 128) 128 _ (wv (xrF (pagesF (pgA Mr ah) (pgA Mr ot)) (pgA Mr pp))) rfl rfl hR.out (by have:=hppl.out; omega) infoPg (fun _ _=>rfl)) (fun _=>True) (.inl (by simp)) trivial ?_
        simp only [List.getElem_toArray,List.getElem_cons_zero,List.getElem_cons_succ,Act.put]
        generalize wr.drew.setCells b (pp * 128) (row 128 (wv (xrF (pagesF (pgA Mr ah) (pgA Mr ot)) (pgA Mr pp)))) = x9 at N0 N1 N2 ⊢
        clear hM hR hE
        refine wpZ_nil ?_
        go_wp2
        refine bodyPost_end (v:=.tuple #[]) (by simp [results,Tryd.results35]) rfl ⟨rfl,N1.out,?_,N2.out⟩
        have e:upA Mr pp ((xrF (pagesF (pgA Mr ah) (pgA Mr ot)) (pgA Mr pp))) = stR s L T Mr ps sl ln k:=by
          unfold stR
          rw [← hah.out,← hx.out,← hot.out,← epp.out,if_pos h0']
        rw [← e]
        exact N0.out
  · have h0:Hid (¬ 0 < ps):=h0'
    go_upto_region 4 with (fail)
    refine wp_region_lit ?_
    have m18:Y13.cell? ⟨p,5,none⟩ = some (.int .i64 (ps:Int)):=hM.out.1 5 (by decide)
    refine xm [some (.pointer (some ⟨p,0,none⟩)),some (.pointer (some ⟨p,0,none⟩)),some (.pointer (some ⟨p,5,none⟩)),some (.int .i64 (ps:Int)),some (.bool false)] (by kernel_rfl) (by simp [xr,go_sem,m18,h0.out]) ?_
    simp only [xw,p0,p1,p2,p3]
    clear m18
    go_upto_region 10 with (fail)
    replace hM:=hideit hM.out.drew
    replace hR:=hideit hR.out.drew
    replace Hbx:=hideit Hbx.out.drew
    replace hE:=hideit (Ext.draw hE.out)
    refine wp_region_ladz (fun X=>Ext Y13.drew X) [17] [(false,0),(false,1),(false,2),(false,3),(false,4),(false,5),(false,6),(false,7),(false,8),(false,9),(false,10),(false,11),(false,12),(false,13),(false,14),(false,15),(false,16),(true,17)] (by kernel_rfl) (by kernel_rfl) (by decide +kernel) (by decide +kernel) (by decide +kernel) (by decide +kernel) (Ext.refl _) ?_
    refine wpZ_f _ (.pointer (some ⟨p,0,none⟩)) rfl rfl (fun X _=>by simp [go_sem]) ?_
    simp only [List.getElem_toArray,List.getElem_cons_zero,Act.put,List.setIfInBounds_toArray,List.set_cons_zero,List.set_cons_succ]
    refine wpZ_f _ (.pointer (some ⟨p,0,none⟩)) rfl rfl (fun X _=>by simp [go_sem]) ?_
    simp only [jw,jz,kj,jk,jq,jv,jy]
    refine wpZ_f _ (.pointer (some ⟨p,4,none⟩)) rfl rfl (fun X _=>by simp [go_sem]) ?_
    simp only [jw,jz,kj,jk,jq,jv,jy]
    refine wpZ_f _ (.slice (some ⟨b,0,none⟩) (q * L) c) rfl rfl (fun X hX=>by have m19:X.cell? ⟨p,4,none⟩ = some (.slice (some ⟨b,0,none⟩) (q * L) c):=(hM.out.carry hX).1 4 (by decide); simp [go_sem,m19]) ?_
    simp only [jw,jz,kj,jk,jq,jv,jy]
    refine wpZ_f _ (.pointer (some ⟨p,0,none⟩)) rfl rfl (fun X _=>by simp [go_sem]) ?_
    simp only [jw,jz,kj,jk,jq,jv,jy]
    refine wpZ_f _ (.pointer (some ⟨p,0,none⟩)) rfl rfl (fun X _=>by simp [go_sem]) ?_
    simp only [jw,jz,kj,jk,jq,jv,jy]
    refine wpZ_f _ (.pointer (some ⟨p,3,none⟩)) rfl rfl (fun X _=>by simp [go_sem]) ?_
    simp only [jw,jz,kj,jk,jq,jv,jy]
    refine wpZ_f _ (.int .i64 (q:Int)) rfl rfl (fun X hX=>by have m20:X.cell? ⟨p,3,none⟩ = some (.int .i64 (q:Int)):=(hM.out.carry hX).1 3 (by decide); simp [go_sem,m20]) ?_
    simp only [jw,jz,kj,jk,jq,jv,jy]
    refine wpZ_f _ (.pointer (some ⟨p,0,none⟩)) rfl rfl (fun X _=>by simp [go_sem]) ?_
    simp only [jw,jz,kj,jk,jq,jv,jy]
    refine wpZ_f _ (.pointer (some ⟨p,0,none⟩)) rfl rfl (fun X _=>by simp [go_sem]) ?_
    simp only [jw,jz,kj,jk,jq,jv,jy]
    refine wpZ_f _ (.pointer (some ⟨p,7,none⟩)) rfl rfl (fun X _=>by simp [go_sem]) ?_
    simp only [jw,jz,kj,jk,jq,jv,jy]
    refine wpZ_f _ (.int .i64 (ln:Int)) rfl rfl (fun X hX=>by have m21:X.cell? ⟨p,7,none⟩ = some (.int .i64 (ln:Int)):=(hM.out.carry hX).1 7 (by decide); simp [go_sem,m21]) ?_
    simp only [jw,jz,kj,jk,jq,jv,jy]
    refine wpZ_f _ (.int .i64 (ql:Int)) rfl rfl (fun X _=>by simp [go_sem,z4.out]) ?_
    simp only [jw,jz,kj,jk,jq,jv,jy]
    refine wpZ_f _ (.int .i64 (pl:Int)) rfl rfl (fun X _=>by simp [go_sem]) ?_
    simp only [jw,jz,kj,jk,jq,jv,jy]
    refine wpZ_f _ (.int .i64 (pp:Int)) rfl rfl (fun X _=>by simp [go_sem,z10.out]) ?_
    simp only [jw,jz,kj,jk,jq,jv,jy]
    refine wpZ_f _ (.agg (row 128 (wv (pagesF (pgA Mr ah) (pgA Mr ot)))).toArray) rfl rfl (fun X hX=>xload 24 (.tmp 5) rfl bx 0 128 _ rfl (Hbx.out.carry hX).range Tryd.underlying24 rfl infoPg) ?_
    simp only [jw,jz,kj,jk,jq,jv,jy]
    refine wpZ_f _ (.pointer (some ⟨b,pp * 128,none⟩)) rfl rfl (fun X _=>by simp [go_sem,z11.out,add00]) ?_
    simp only [jw,jz,kj,jk,jq,jv,jy]
    have N0:=hideit (rm_set hR.out pp hppl.out ((pagesF (pgA Mr ah) (pgA Mr ot))))
    have N1:=hideit (hM.out.cellsOther (Ne.symm hpb) (row 128 (wv (pagesF (pgA Mr ah) (pgA Mr ot)))) (pp * 128))
    have N2:=hideit (below_setCells b hB (row 128 (wv (pagesF (pgA Mr ah) (pgA Mr ot)))) (pp * 128) _ (Below.mono hE.out hBw))
    refine wpZ_st _ (Y13.drew.setCells b (pp * 128) (row 128 (wv (pagesF (pgA Mr ah) (pgA Mr ot))))) rfl rfl (xstoreM 24 (.tmp 116) (.tmp 115) rfl b (128 * (q * L)) (pp * 128) 128 _ (wv (pagesF (pgA Mr ah) (pgA Mr ot))) rfl rfl hR.out (by have:=hppl.out; omega) infoPg (fun _ _=>rfl)) (fun _=>True) (.inl (by simp)) trivial ?_
    simp only [List.getElem_toArray,List.getElem_cons_zero,List.getElem_cons_succ,Act.put]
    generalize Y13.drew.setCells b (pp * 128) (row 128 (wv (pagesF (pgA Mr ah) (pgA Mr ot)))) = x9 at N0 N1 N2 ⊢
    clear hM hR hE
    refine wpZ_nil ?_
    go_wp2
    refine bodyPost_end (v:=.tuple #[]) (by simp [results,Tryd.results35]) rfl ⟨rfl,N1.out,?_,N2.out⟩
    have e:upA Mr pp ((pagesF (pgA Mr ah) (pgA Mr ot))) = stR s L T Mr ps sl ln k:=by
      unfold stR
      rw [← hah.out,← hx.out,← hot.out,← epp.out,if_neg h0']
    rw [← e]
    exact N0.out
end Go.Proofs.YtfbmeclpcgdmhabDoor
