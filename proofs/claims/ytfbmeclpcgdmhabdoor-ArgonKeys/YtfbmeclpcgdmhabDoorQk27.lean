/-
  Many operations at once, each with the value that it gives: a row of steps in one. No word of the program. Parameters and secrets: what may be.
-/
import Derived.Test.YtfbmeclpcgdmhabDoorQk26
import Derived.Test.YtfbmeclpcgdmhabDoorQk19
namespace Go.Proofs.YtfbmeclpcgdmhabDoor
open Go.RowKit Go.BigFrame
def xg (ops:Array Oper):List Oper → Act → List (Option Value) → Bool
  | _,_,[]=>true
  | [],_,_ :: _=>false
  | o :: os,a,v :: vs=>(Region.wanted o (yielded ops a.tmps) == v.isSome) && xg ops os (a.put o.dst (v.getD undef)) vs
def xr (P:Program) (w:World):List Oper → Act → List (Option Value) → Prop
  | _,_,[]=>True
  | [],_,_ :: _=>True
  | o :: os,a,none :: vs=>xr P w os (a.put o.dst undef) vs
  | o :: os,a,some v :: vs=>(execOp a.eval o).run P w = .ok (.value v) w ∧ xr P w os (a.put o.dst v) vs
def xw (P:Program) (ops:Array Oper) (Q:Exit → Act → World → Prop) (w:World):List Oper → Act → List (Option Value) → Prop
  | os,a,[]=>wpList P ops Q os a w
  | [],_,_ :: _=>True
  | o :: os,a,none :: vs=>xw P ops Q w os (a.put o.dst undef) vs
  | o :: os,a,some v :: vs=>xw P ops Q w os (a.put o.dst v) vs
theorem xm {P:Program} {w:World} {ops:Array Oper} {Q:Exit → Act → World → Prop}:∀ (vs:List (Option Value)) {os:List Oper} {a:Act} (_:xg ops os a vs = true) (_:xr P w os a vs) (_:xw P ops Q w os a vs),wpList P ops Q os a w
  | [],os,a,_,_,h=>by cases os <;> exact h
  | v :: vs,[],a,hg,_,_=>by cases hg
  | none :: vs,o :: os,a,hg,hr,h=>by
    unfold xg at hg
    rw [Bool.and_eq_true] at hg
    exact xnot (by simpa using hg.1) (xm vs hg.2 hr h)
  | some v :: vs,o :: os,a,hg,hr,h=>by
    unfold xg at hg
    rw [Bool.and_eq_true] at hg
    exact wpList_runW (by simpa using hg.1) v hr.1 (xm vs hg.2 hr.2 h)
theorem p0 (a:Act) (d:Tmp) (v:Value):a.put (some d) v = { a with tmps:=a.tmps.setIfInBounds d v }:=rfl
theorem p1 {α:Type} (l:List α) (i:Nat) (a:α):l.toArray.setIfInBounds i a = (l.set i a).toArray:=List.setIfInBounds_toArray ..
theorem p2 {α:Type} (x a:α) (l:List α):(x :: l).set 0 a = a :: l:=rfl
theorem p3 {α:Type} (x a:α) (l:List α) (n:Nat):(x :: l).set (n + 1) a = x :: l.set n a:=rfl
end Go.Proofs.YtfbmeclpcgdmhabDoor
namespace Go.Proofs.YtfbmeclpcgdmhabDoor
open Go.RowKit Go.BigFrame
set_option linter.unusedVariables false
def pav (ti me la:Int):Nat → Value:=fun j=>if j = 0 then .int .i64 ti else if j = 1 then .int .i64 me else .int .i64 la
def okP (ti me la:Int):Prop:=(1 ≤ ti ∧ ti ≤ 8) ∧ (1 ≤ la ∧ la ≤ 4) ∧ (8 * la ≤ me ∧ me ≤ 256)
set_option maxRecDepth 20000 in
set_option maxHeartbeats 2000000 in
theorem acheck (ti me la:Int) (w:World) (R:Int) (hR:Hid ((okP ti me la → R = 0) ∧ (¬ okP ti me la → R = 80))):
    Calls Tryd.prog 14 #[.agg (row 3 (pav ti me la)).toArray] w fun e w'=>e = .returned (.int .i64 R) ∧ Ext w w':=by
  have H0:Hid (RowAt w.heap.size 3 (pav ti me la) (w.alloc (.cells (row 3 (pav ti me la)).toArray 31))):=RowAt.new w 3 _ 31
  have hE0:Hid (Ext w (w.alloc (.cells (row 3 (pav ti me la)).toArray 31))):=(Below.refl _ _).alloc (Nat.le_refl _) _
  have hno:Hid (¬ okP ti me la → R = 80):=hR.out.2
  have hyes:Hid (okP ti me la → R = 0):=hR.out.1
  clear hR
  go_enter Tryd.func14,Tryd.ntmps14
  go_upto_region 1 with (fail)
  generalize w.alloc (.cells (row 3 (pav ti me la)).toArray 31) = w1 at *
  obtain ⟨c,hc⟩:∃ c,c = w.heap.size:=⟨_,rfl⟩
  rw [← hc] at H0 ⊢
  clear hc
  have e0:w1.cell? ⟨c,0,none⟩ = some (.int .i64 ti):=H0.out.1 0 (by decide)
  have e1:w1.cell? ⟨c,1,none⟩ = some (.int .i64 me):=H0.out.1 1 (by decide)
  have e2:w1.cell? ⟨c,2,none⟩ = some (.int .i64 la):=H0.out.1 2 (by decide)
  by_cases c1:1 ≤ ti
  · by_cases c2:ti ≤ 8
    · by_cases c3:1 ≤ la
      · by_cases c4:la ≤ 4
        · have hm:IntKind.i64.wrap (8 * la) = 8 * la:=by rw [IntKind.wrap_i64]; omega
          by_cases c5:8 * la ≤ me
          · by_cases c6:me ≤ 256
            · have hf:Hid (R = 0):=hideit (hyes.out ⟨⟨c1,c2⟩,⟨c3,c4⟩,⟨c5,c6⟩⟩)
              go_wp2
              go_ret
              exact ⟨ret_int hf.out.symm,hE0.out⟩
            · have hf:Hid (R = 80):=hideit (hno.out fun hh=>c6 hh.2.2.2)
              go_wp2
              go_ret
              exact ⟨ret_int hf.out.symm,hE0.out⟩
          · have hf:Hid (R = 80):=hideit (hno.out fun hh=>c5 hh.2.2.1)
            go_wp2
            go_ret
            exact ⟨ret_int hf.out.symm,hE0.out⟩
        · have hf:Hid (R = 80):=hideit (hno.out fun hh=>c4 hh.2.1.2)
          go_wp2
          all_goals (go_ret; exact ⟨ret_int hf.out.symm,hE0.out⟩)
      · have hf:Hid (R = 80):=hideit (hno.out fun hh=>c3 hh.2.1.1)
        go_wp2
        all_goals (go_ret; exact ⟨ret_int hf.out.symm,hE0.out⟩)
    · have hf:Hid (R = 80):=hideit (hno.out fun hh=>c2 hh.1.2)
      go_wp2
      all_goals (go_ret; exact ⟨ret_int hf.out.symm,hE0.out⟩)
  · have hf:Hid (R = 80):=hideit (hno.out fun hh=>c1 hh.1.1)
    go_wp2
    all_goals (go_ret; exact ⟨ret_int hf.out.symm,hE0.out⟩)
set_option maxRecDepth 20000 in
set_option maxHeartbeats 2000000 in
theorem racheck (ti me la:Int) (w:World) (R:Int) (hR:Hid ((okP ti me la → R = 0) ∧ (¬ okP ti me la → R = 80))):
    Calls Tryd.prog 15 #[.agg (row 3 (pav ti me la)).toArray] w fun e w'=>e = .returned (.int .i64 R) ∧ Ext w w':=by
  have H0:Hid (RowAt w.heap.size 3 (pav ti me la) (w.alloc (.cells (row 3 (pav ti me la)).toArray 31))):=RowAt.new w 3 _ 31
  have hE0:Hid (Ext w (w.alloc (.cells (row 3 (pav ti me la)).toArray 31))):=(Below.refl _ _).alloc (Nat.le_refl _) _
  have hno:Hid (¬ okP ti me la → R = 80):=hR.out.2
  have hyes:Hid (okP ti me la → R = 0):=hR.out.1
  clear hR
  go_enter Tryd.func15,Tryd.ntmps15
  go_upto_region 1 with (fail)
  generalize w.alloc (.cells (row 3 (pav ti me la)).toArray 31) = w1 at *
  obtain ⟨c,hc⟩:∃ c,c = w.heap.size:=⟨_,rfl⟩
  rw [← hc] at H0 ⊢
  clear hc
  have e0:w1.cell? ⟨c,0,none⟩ = some (.int .i64 ti):=H0.out.1 0 (by decide)
  have e1:w1.cell? ⟨c,1,none⟩ = some (.int .i64 me):=H0.out.1 1 (by decide)
  have e2:w1.cell? ⟨c,2,none⟩ = some (.int .i64 la):=H0.out.1 2 (by decide)
  by_cases c1:1 ≤ ti
  · by_cases c2:ti ≤ 8
    · by_cases c3:1 ≤ la
      · by_cases c4:la ≤ 4
        · have hm:IntKind.i64.wrap (8 * la) = 8 * la:=by rw [IntKind.wrap_i64]; omega
          by_cases c5:8 * la ≤ me
          · by_cases c6:me ≤ 256
            · have hf:Hid (R = 0):=hideit (hyes.out ⟨⟨c1,c2⟩,⟨c3,c4⟩,⟨c5,c6⟩⟩)
              go_wp2
              go_ret
              exact ⟨ret_int hf.out.symm,hE0.out⟩
            · have hf:Hid (R = 80):=hideit (hno.out fun hh=>c6 hh.2.2.2)
              go_wp2
              all_goals (go_ret; exact ⟨ret_int hf.out.symm,hE0.out⟩)
          · have hf:Hid (R = 80):=hideit (hno.out fun hh=>c5 hh.2.2.1)
            go_wp2
            all_goals (go_ret; exact ⟨ret_int hf.out.symm,hE0.out⟩)
        · have hf:Hid (R = 80):=hideit (hno.out fun hh=>c4 hh.2.1.2)
          go_wp2
          all_goals (go_ret; exact ⟨ret_int hf.out.symm,hE0.out⟩)
      · have hf:Hid (R = 80):=hideit (hno.out fun hh=>c3 hh.2.1.1)
        go_wp2
        all_goals (go_ret; exact ⟨ret_int hf.out.symm,hE0.out⟩)
    · have hf:Hid (R = 80):=hideit (hno.out fun hh=>c2 hh.1.2)
      go_wp2
      all_goals (go_ret; exact ⟨ret_int hf.out.symm,hE0.out⟩)
  · have hf:Hid (R = 80):=hideit (hno.out fun hh=>c1 hh.1.1)
    go_wp2
    all_goals (go_ret; exact ⟨ret_int hf.out.symm,hE0.out⟩)
theorem infoPa:(Tryd.prog.info? 31).map (·.size) = some 3:=by kernel_rfl
theorem infoSc:(Tryd.prog.info? 34).map (·.size) = some 4:=by kernel_rfl
set_option maxRecDepth 20000 in
theorem num_any (n:Nat) (hn:n ≤ 4611686018427387904) (w:World):
    Calls Tryd.prog 40 #[.int .i64 (n:Int)] w fun e w'=>∃ g,e = .returned (.slice (some ⟨g,0,none⟩) 4 4) ∧ w.heap.size ≤ g ∧ BV (.slice (some ⟨g,0,none⟩) 4 4) 4 (fourB n) w' ∧ Ext w w':=by
  have n0:(0:Int) ≤ (n:Int):=by omega
  have n1:(n:Int) ≤ 4611686018427387904:=by omega
  have q0:IntKind.u8.wrap (n:Int) = ((fourB n 0).toNat:Int):=by unfold fourB; rw [wrap8]; simp
  have q1:IntKind.u8.wrap ((n:Int) / 256) = ((fourB n 1).toNat:Int):=by unfold fourB; rw [← wrap8]; rfl
  have q2:IntKind.u8.wrap ((n:Int) / 65536) = ((fourB n 2).toNat:Int):=by unfold fourB; rw [← wrap8]; rfl
  have q3:IntKind.u8.wrap ((n:Int) / 16777216) = ((fourB n 3).toNat:Int):=by unfold fourB; rw [← wrap8]; rfl
  obtain ⟨f,hf⟩:∃ f,f = fourB n:=⟨_,rfl⟩
  rw [← hf] at q0 q1 q2 q3 ⊢
  clear hf
  go_enter Tryd.func40,Tryd.ntmps40
  go_wp2
  go_ret
  refine ⟨w.heap.size,rfl,Nat.le_refl _,?_⟩
  exact newB w _ 4 f fun j hj=>by
    rcases (by omega:j = 0 ∨ j = 1 ∨ j = 2 ∨ j = 3) with rfl | rfl | rfl | rfl <;> rfl
def scv (v0 v1 v2 v3:Value):Nat → Value:=fun j=>if j = 0 then v0 else if j = 1 then v1 else if j = 2 then v2 else v3
def okC (l0 l1 l2 l3:Nat):Prop:=l0 ≤ 512 ∧ (8 ≤ l1 ∧ l1 ≤ 64) ∧ (l2 ≤ 64 ∧ l3 ≤ 64)
set_option maxRecDepth 20000 in
set_option maxHeartbeats 2000000 in
theorem secret_any (o0 o1 o2 o3:Option Addr) (l0 l1 l2 l3 k0 k1 k2 k3:Nat) (w:World) (R:Int) (hR:Hid ((okC l0 l1 l2 l3 → R = 0) ∧ (¬ okC l0 l1 l2 l3 → R = 80))):
    Calls Tryd.prog 39 #[.agg (row 4 (scv (.slice o0 l0 k0) (.slice o1 l1 k1) (.slice o2 l2 k2) (.slice o3 l3 k3))).toArray] w fun e w'=>e = .returned (.int .i64 R) ∧ Ext w w':=by
  have H0:Hid (RowAt w.heap.size 4 (scv (.slice o0 l0 k0) (.slice o1 l1 k1) (.slice o2 l2 k2) (.slice o3 l3 k3)) (w.alloc (.cells (row 4 (scv (.slice o0 l0 k0) (.slice o1 l1 k1) (.slice o2 l2 k2) (.slice o3 l3 k3))).toArray 34))):=RowAt.new w 4 _ 34
  have hE0:Hid (Ext w (w.alloc (.cells (row 4 (scv (.slice o0 l0 k0) (.slice o1 l1 k1) (.slice o2 l2 k2) (.slice o3 l3 k3))).toArray 34))):=(Below.refl _ _).alloc (Nat.le_refl _) _
  have hno:Hid (¬ okC l0 l1 l2 l3 → R = 80):=hR.out.2
  have hyes:Hid (okC l0 l1 l2 l3 → R = 0):=hR.out.1
  clear hR
  go_enter Tryd.func39,Tryd.ntmps39
  go_upto_region 1 with (fail)
  generalize w.alloc (.cells (row 4 (scv (.slice o0 l0 k0) (.slice o1 l1 k1) (.slice o2 l2 k2) (.slice o3 l3 k3))).toArray 34) = w1 at *
  obtain ⟨c,hc⟩:∃ c,c = w.heap.size:=⟨_,rfl⟩
  rw [← hc] at H0 ⊢
  clear hc
  have e0:w1.cell? ⟨c,0,none⟩ = some (.slice o0 l0 k0):=H0.out.1 0 (by decide)
  have e1:w1.cell? ⟨c,1,none⟩ = some (.slice o1 l1 k1):=H0.out.1 1 (by decide)
  have e2:w1.cell? ⟨c,2,none⟩ = some (.slice o2 l2 k2):=H0.out.1 2 (by decide)
  have e3:w1.cell? ⟨c,3,none⟩ = some (.slice o3 l3 k3):=H0.out.1 3 (by decide)
  clear H0
  by_cases c1:(l0:Int) ≤ 512
  · by_cases c2:8 ≤ (l1:Int)
    · by_cases c3:(l1:Int) ≤ 64
      · by_cases c4:(l2:Int) ≤ 64
        · by_cases c5:(l3:Int) ≤ 64
          · have hf:Hid (R = 0):=hideit (hyes.out ⟨by omega,⟨by omega,by omega⟩,⟨by omega,by omega⟩⟩)
            go_wp2
            all_goals (go_ret; exact ⟨ret_int hf.out.symm,hE0.out⟩)
          · have hf:Hid (R = 80):=hideit (hno.out fun hh=>c5 (by have:=hh.2.2.2; omega))
            go_wp2
            all_goals (go_ret; exact ⟨ret_int hf.out.symm,hE0.out⟩)
        · have hf:Hid (R = 80):=hideit (hno.out fun hh=>c4 (by have:=hh.2.2.1; omega))
          go_wp2
          all_goals (go_ret; exact ⟨ret_int hf.out.symm,hE0.out⟩)
      · have hf:Hid (R = 80):=hideit (hno.out fun hh=>c3 (by have:=hh.2.1.2; omega))
        go_wp2
        all_goals (go_ret; exact ⟨ret_int hf.out.symm,hE0.out⟩)
    · have hf:Hid (R = 80):=hideit (hno.out fun hh=>c2 (by have:=hh.2.1.1; omega))
      go_wp2
      all_goals (go_ret; exact ⟨ret_int hf.out.symm,hE0.out⟩)
  · have hf:Hid (R = 80):=hideit (hno.out fun hh=>c1 (by have:=hh.1; omega))
    go_wp2
    all_goals (go_ret; exact ⟨ret_int hf.out.symm,hE0.out⟩)
set_option maxRecDepth 20000 in
set_option maxHeartbeats 4000000 in
theorem slp_any (ti:Int) (me la:Nat) (w:World) (hp:okP ti (me:Int) (la:Int)):Calls Tryd.prog 38 #[.agg (row 3 (pav ti (me:Int) (la:Int))).toArray] w fun e w'=>e = .returned (.int .i64 ((me / (4 * la):Nat):Int)) ∧ Ext w w':=by
  obtain ⟨h1,h2,h3,h4,h5,h6⟩:1 ≤ (la:Int) ∧ (la:Int) ≤ 4 ∧ 8 * (la:Int) ≤ me ∧ (me:Int) ≤ 256 ∧ 1 ≤ ti ∧ ti ≤ 8:=⟨hp.2.1.1,hp.2.1.2,hp.2.2.1,hp.2.2.2,hp.1.1,hp.1.2⟩
  have z1:IntKind.i64.wrap (4 * (la:Int)) = 4 * (la:Int):=by rw [IntKind.wrap_i64]; omega
  have z2:¬ la = 0:=by omega
  have z3:(me:Int).tdiv (4 * (la:Int)) = ((me / (4 * la):Nat):Int):=by rw [Int.tdiv_eq_ediv_of_nonneg (by omega)]; rfl
  have hl:=Nat.div_le_self me (4 * la)
  obtain ⟨q,hq⟩:∃ q,q = me / (4 * la):=⟨_,rfl⟩
  rw [← hq] at z3 hl ⊢
  have z4:IntKind.i64.wrap (q:Int) = (q:Int):=by rw [IntKind.wrap_i64]; omega
  clear hp h1 h2 h3 h4 h5 h6 hq hl
  obtain ⟨c,w1,hw,hc,H0,hE⟩:=boxes1 w 3 (pav ti (me:Int) (la:Int)) 31
  go_enter Tryd.func38,Tryd.ntmps38
  go_upto_region 1 with (fail)
  rw [← hw.out,← hc.out]
  clear hw hc
  refine wp_region_lit ?_
  have m1:w1.cell? ⟨c,1,none⟩ = some (.int .i64 (me:Int)):=H0.out.1 1 (by decide)
  have m2:w1.cell? ⟨c,2,none⟩ = some (.int .i64 (la:Int)):=H0.out.1 2 (by decide)
  refine xm [some (.pointer (some ⟨c,1,none⟩)),some (.int .i64 (me:Int)),some (.pointer (some ⟨c,2,none⟩)),some (.int .i64 (la:Int)),some (.int .i64 (4 * (la:Int))),some (.int .i64 (q:Int)),some (.int .i64 (q:Int))] (by kernel_rfl) (by simp [xr,go_sem,m1,m2,z1,z2,z3,z4]) ?_
  simp only [xw,p0,p1,p2,p3]
  clear m1
  clear m2
  go_wp2
  go_ret
  exact ⟨rfl,hE.out⟩
end Go.Proofs.YtfbmeclpcgdmhabDoor
