/-
  A disk's Fork. How lists of Ops that came in read; blocks made of bytes that came in.
-/
import Derived.Test.YtfaeieaelfjlpaaQ20
namespace Go.Proofs.Ytfaeieaelfjlpaa
open Go.RowKit Go.BigFrame Go.Maps
theorem wpList_st9 {P : Program} {w : World} {ops : Array Oper} {rest : List Oper} {o : Oper} {a : Act} {Q : Exit → Act → World → Prop} (hg : o.guard = none) (w' : World) (hr : (execOp a.eval o).run P w = .ok .skip w')
    (h : wpList P ops Q rest (a.put o.dst undef) w') : wpList P ops Q (o :: rest) a w := by
  refine wpList_plain hg fun K hK => ?_
  unfold Oper.wp
  rw [hr]
  exact hK _ _ h
set_option maxRecDepth 20000 in
theorem clone54 (a : Addr) (k cap : Nat) (us : Nat → Value) (w : World) (h1 : ∀ j, j < k → (us j).oneCell' = true) (h : LieAt a k us w) (hk : k ≤ 4398046511104) :
    Calls Try.prog 25 #[.slice (some a) k cap] w fun e w' => ∃ v', e = .returned v' ∧ OwnB w.heap.size 31 v' k us w' ∧ Ext w w' := by
  have hE : Ext w (w.alloc (.cells #[] 31)) := (Below.refl _ _).alloc (Nat.le_refl _) _
  have hO := own_empty w w.heap.size 31 us (Nat.le_refl _)
  have hl := h.carry hE
  replace hE := hideit hE
  replace hO := hideit hO
  replace hl := hideit hl
  clear h
  have hq := fun X : World => Go.Lib.run_eql_slice_some_nil (P := Try.prog) X a k cap Try.underlying54
  go_enter Try.func25, Try.ntmps25
  go_upto_region 3 with (fail)
  refine wp_region_lit ?_
  refine wpList_to rfl (.slice (some ⟨w.heap.size, 0, none⟩) 0 0) (w.alloc (.cells #[] 31)) (by simp [go_sem]) ?_
  simp only [Act.put, List.setIfInBounds_toArray, List.set_cons_zero, List.set_cons_succ]
  refine wpList_run rfl (.slice (some a) k cap) (by simp [go_sem]) ?_
  simp only [Act.put, List.setIfInBounds_toArray, List.set_cons_zero, List.set_cons_succ]
  refine wpList_growE (n := 0) (base := w.heap.size) elem54 rfl (.tmp 5) (.tmp 6) rfl rfl hO.out a k cap us us rfl hl.out h1 (fun _ _ => rfl) (fun j hj => by rw [Nat.zero_add]) (by omega) (by omega) (Below.size hE.out) ?_
  intro v1 w1 hO1 hg1
  rw [Nat.zero_add] at hO1
  have hE1 := hideit (grownE hE.out hO.out (Nat.le_refl _) hg1)
  obtain ⟨o1, c1, rfl⟩ : ∃ o1 c1, v1 = .slice o1 k c1 := by
    rcases hO1.2 with ⟨h1, h2⟩ | ⟨b, c, cur, h1, _⟩
    · exact ⟨none, 0, by rw [h1, h2]⟩
    · exact ⟨_, _, h1⟩
  replace hO1 := hideit hO1
  simp only [Act.put, List.setIfInBounds_toArray, List.set_cons_zero, List.set_cons_succ]
  clear hE hO hg1 hl hq
  go_wp2
  go_ret
  exact ⟨_, rfl, hO1.out, hE1.out⟩
theorem RangeAt.cnt_le {P : Program} {k : TypeId} {b r n cnt : Nat} {m : Int → Option Value} {left : Int → Bool} {w : World} (h : RangeAt P k b r n m left cnt w) : cnt ≤ n := by
  obtain ⟨D, lf, ⟨es, clock, since, seen, c0, _, _, hs, _, _, _, hc, _⟩, _⟩ := h
  rw [← hc]
  unfold leftOf
  have := Array.size_filter_le (xs := es) (p := fun e => !seen.contains e.born)
  omega
section
variable {F : Nat → Prop} {p : Nat} {s : DSt} {C : Nat} {M : DM} {W X : World}
/-- a fork on its way -/
structure FkW (s : DSt) (C : Nat) (M : DM) (W : World) (r j : Nat) (km : Int → Option Value) (left : Int → Bool) (cnt : Nat) (X : World) : Prop where
  rg : RangeAt Try.prog 3 M.mb r C M.m left cnt X
  mp : MapAt Try.prog 3 W.heap.size j km X
  rn : W.heap.size < r
  jc : j + cnt ≤ C
  ext : Ext W X
  here : ∀ n : Nat, n < s.N → left n = false → (M.m n = none ∧ km n = none) ∨ ∃ v', km n = some v' ∧ M.m n ≠ none ∧ OwnB W.heap.size 31 v' (s.kc n) (M.us n) X
  notY : ∀ n : Nat, n < s.N → left n = true → km n = none
  keys : ∀ x, okI x → km x ≠ none → ∃ n : Nat, x = (n : Int) ∧ n < s.N
  la : ∀ (n : Nat) v b, n < s.N → km n = some v → v.ownBlock = some b → b ≠ W.heap.size ∧ W.heap.size ≤ b ∧ b < X.heap.size
  ll : ∀ (n n' : Nat) v v' b, n < s.N → n' < s.N → n ≠ n' → km n = some v → km n' = some v' → v.ownBlock = some b → v'.ownBlock ≠ some b
set_option maxRecDepth 20000 in
set_option maxHeartbeats 8000000 in
theorem dfork (h : DkM F p s C M W) (hN : 0 < s.N) (hC : C ≤ 4398046511104) :
    Calls Try.prog 10 #[.pointer (some ⟨p, 0, none⟩)] W fun e w' => ∃ q G N, e = .returned (.pointer (some ⟨q, 0, none⟩)) ∧ DkM G q s C N w' ∧ Ext W w' ∧ ∀ i, G i → W.heap.size ≤ i := by
  have hn4 := h.n4
  have hmm := @run_makeMap Try.prog
  have hX1 : Ext W (W.alloc (.map #[] 0)) := (Below.refl _ _).alloc (Nat.le_refl _) _
  have hM1 : MapAt Try.prog 3 W.heap.size 0 (fun _ => none) (W.alloc (.map #[] 0)) := map_made W
  have hs1 : (W.alloc (.map #[] 0)).heap.size = W.heap.size + 1 := by simp
  have h1 := h.ext hX1
  obtain ⟨w2, cnt0, hr2, hR2, hg2, hs2⟩ := h1.mp.range (t := 56) Try.underlying3 Try.underlying56
  have hX2 : Ext (W.alloc (.map #[] 0)) w2 := ⟨hg2.os, hg2.tape, hg2.output, hg2.size, fun i hi => hg2.block i hi (by simp)⟩
  rw [hs1] at hR2 hr2
  have hS : Hid (FkW s C M W (W.heap.size + 1) 0 (fun _ => none) (fun x => (M.m x).isSome) cnt0 w2) := {
    rg := hR2
    mp := hM1.same (Below.block hX2 _ hM1.lt)
    rn := by omega
    jc := by have := hR2.cnt_le; omega
    ext := Ext.trans hX1 hX2
    here := fun n hn hl => .inl ⟨(by cases hm : M.m n with | none => rfl | some v => rw [hm] at hl; cases hl), rfl⟩
    notY := fun n hn hl => rfl
    keys := fun x hx hn => absurd rfl hn
    la := fun n v b hn hv => by cases hv
    ll := fun n n' v v' b hn hn' hne hv => by cases hv }
  have ec := h1.c1
  replace h := hideit h
  clear h1 hR2 hg2 hs2 hX2
  go_enter Try.func10, Try.ntmps10
  go_upto_region 4 with (fail)
  clear hmm
  replace hX1 := hideit hX1
  generalize W.alloc (.map #[] 0) = w1 at *
  refine wp_region_lit ?_
  refine wpList_run rfl (.pointer (some ⟨p, 0, none⟩)) (by simp [go_sem]) ?_
  simp only [Act.put, List.setIfInBounds_toArray, List.set_cons_zero, List.set_cons_succ]
  refine wpList_run rfl (.pointer (some ⟨p, 0, none⟩)) (by simp [go_sem]) ?_
  simp only [Act.put, List.setIfInBounds_toArray, List.set_cons_zero, List.set_cons_succ]
  refine wpList_run rfl (.pointer (some ⟨p, 1, none⟩)) (by simp [go_sem]) ?_
  simp only [Act.put, List.setIfInBounds_toArray, List.set_cons_zero, List.set_cons_succ]
  refine wpList_run rfl (.map (some M.mb)) (by simp [go_sem, ec]) ?_
  simp only [Act.put, List.setIfInBounds_toArray, List.set_cons_zero, List.set_cons_succ]
  refine wpList_to rfl (.pointer (some ⟨W.heap.size + 1, 0, none⟩)) w2 (exec_range (.tmp 12) rfl rfl hr2) ?_
  simp only [Act.put, List.setIfInBounds_toArray, List.set_cons_zero, List.set_cons_succ]
  clear hr2 ec
  go_wp2
  go_loopw [4] (fun _ X => ∃ j km left cnt, FkW s C M W (W.heap.size + 1) j km left cnt X) (fun _ X => X.rangeLeft M.mb (W.heap.size + 1))
  case atStart => exact ⟨_, _, _, _, hS.out⟩
  case round =>
    obtain ⟨j, km, left, cnt, hI⟩ := hrel
    rcases hI.rg.next Try.underlying3 0 with ⟨hdone, hrn⟩ | ⟨x, v, w3, cnt', hx, hlx, hmx, hrn, hR3, hcl, hg3, hs3, hen⟩
    · have hD : Ext wr wr.drew := (Ext.refl wr).draw
      have hEd := Ext.trans hI.ext hD
      have hd := h.out.ext hEd
      have h1c : ∀ j, j < s.N → (M.sv j).oneCell' = true := fun j hj => by
        obtain ⟨b, cap, hv, _⟩ := h.out.cont j hj
        rw [hv]
        rfl
      have kcl := hideit (clone54 ⟨M.sb, 0, none⟩ s.N M.cp M.sv wr.drew h1c (RowAt.lie hd.sure _ (Nat.le_refl _)) (by omega))
      have hst := hd.st
      go_upto_region 5 with (fail)
      refine wp_region_lit ?_
      refine wpList_to rfl (.tuple #[.bool false]) wr (exec_next (.tmp 13) rfl rfl hrn) ?_
      simp only [Act.put, List.setIfInBounds_toArray, List.set_cons_zero, List.set_cons_succ]
      clear hrn
      go_upto_region 8 with (fail)
      refine wp_region_lad (fun X => RowAt p 3 (dkV s.N M.sb M.cp M.mb s.pw) X) [(false, 0), (false, 1), (false, 2), (false, 3), (false, 5), (false, 6), (false, 7), (false, 8), (false, 9), (true, 4), (false, 10), (true, 11), (false, 12)] (by kernel_rfl) (by kernel_rfl) (by decide +kernel) (by decide +kernel) (by decide +kernel) (by decide +kernel) hst ?_
      refine wpX_f _ (.pointer (some ⟨p, 0, none⟩)) rfl rfl (fun X _ => by simp [go_sem]) ?_
      simp only [List.getElem_toArray, List.getElem_cons_zero, Act.put, List.setIfInBounds_toArray, List.set_cons_zero, List.set_cons_succ]
      refine wpX_f _ (.pointer (some ⟨p, 0, none⟩)) rfl rfl (fun X _ => by simp [go_sem]) ?_
      simp only [List.getElem_toArray, List.getElem_cons_zero, List.getElem_cons_succ, Act.put, List.setIfInBounds_toArray, List.set_cons_zero, List.set_cons_succ]
      refine wpX_f _ (.pointer (some ⟨p, 0, none⟩)) rfl rfl (fun X _ => by simp [go_sem]) ?_
      simp only [List.getElem_toArray, List.getElem_cons_zero, List.getElem_cons_succ, Act.put, List.setIfInBounds_toArray, List.set_cons_zero, List.set_cons_succ]
      refine wpX_f _ (.slice (some ⟨M.sb, 0, none⟩) s.N M.cp) rfl rfl (fun X hX => by have e := hX.1 0 (by decide); rw [show dkV s.N M.sb M.cp M.mb s.pw 0 = .slice (some ⟨M.sb, 0, none⟩) s.N M.cp from rfl] at e; simp [go_sem, e]) ?_
      simp only [List.getElem_toArray, List.getElem_cons_zero, List.getElem_cons_succ, Act.put, List.setIfInBounds_toArray, List.set_cons_zero, List.set_cons_succ]
      refine wpX_f _ (.map (some W.heap.size)) rfl rfl (fun X _ => by simp [go_sem]) ?_
      simp only [List.getElem_toArray, List.getElem_cons_zero, List.getElem_cons_succ, Act.put, List.setIfInBounds_toArray, List.set_cons_zero, List.set_cons_succ]
      refine wpX_f _ (.pointer (some ⟨p, 0, none⟩)) rfl rfl (fun X _ => by simp [go_sem]) ?_
      simp only [List.getElem_toArray, List.getElem_cons_zero, List.getElem_cons_succ, Act.put, List.setIfInBounds_toArray, List.set_cons_zero, List.set_cons_succ]
      refine wpX_f _ (.pointer (some ⟨p, 0, none⟩)) rfl rfl (fun X _ => by simp [go_sem]) ?_
      simp only [List.getElem_toArray, List.getElem_cons_zero, List.getElem_cons_succ, Act.put, List.setIfInBounds_toArray, List.set_cons_zero, List.set_cons_succ]
      refine wpX_f _ (.pointer (some ⟨p, 2, none⟩)) rfl rfl (fun X _ => by simp [go_sem]) ?_
      simp only [List.getElem_toArray, List.getElem_cons_zero, List.getElem_cons_succ, Act.put, List.setIfInBounds_toArray, List.set_cons_zero, List.set_cons_succ]
      refine wpX_f _ (.int .i64 s.pw) rfl rfl (fun X hX => by have e := hX.1 2 (by decide); rw [show dkV s.N M.sb M.cp M.mb s.pw 2 = .int .i64 s.pw from rfl] at e; simp [go_sem, e]) ?_
      simp only [List.getElem_toArray, List.getElem_cons_zero, List.getElem_cons_succ, Act.put, List.setIfInBounds_toArray, List.set_cons_zero, List.set_cons_succ]
      refine wpX_call _ rfl rfl (by simp [go_sem]) (kcl.out.mono ?_)
      rintro e w4 ⟨v4, rfl, hO4, hX4⟩
      have hO4' := hO4
      obtain ⟨cb, ccap, rfl, hcb, hcc, -, hrow4⟩ := hO4.lies hN
      refine ⟨_, rfl, fun X => RowAt p 3 (dkV s.N M.sb M.cp M.mb s.pw) X, fun X hX => hX, hst.carry hX4, ?_⟩
      simp only [List.getElem_toArray, List.getElem_cons_zero, List.getElem_cons_succ, Act.put, List.setIfInBounds_toArray, List.set_cons_zero, List.set_cons_succ]
      refine wpX_f _ (.agg #[.slice (some ⟨cb, 0, none⟩) s.N ccap, .map (some W.heap.size), .int .i64 s.pw]) rfl rfl (fun X _ => by simp [go_sem]) ?_
      simp only [List.getElem_toArray, List.getElem_cons_zero, List.getElem_cons_succ, Act.put, List.setIfInBounds_toArray, List.set_cons_zero, List.set_cons_succ]
      have hX5 : Ext w4 (w4.alloc (.cells #[.slice (some ⟨cb, 0, none⟩) s.N ccap, .map (some W.heap.size), .int .i64 s.pw] 58)) := (Below.refl _ _).alloc (Nat.le_refl _) _
      have hP5 : RowAt w4.heap.size 3 (dkV s.N cb ccap W.heap.size s.pw) (w4.alloc (.cells #[.slice (some ⟨cb, 0, none⟩) s.N ccap, .map (some W.heap.size), .int .i64 s.pw] 58)) := RowAt.newOf w4 3 _ 58 _ fun j hj => by
        rcases (by omega : j = 0 ∨ j = 1 ∨ j = 2) with rfl | rfl | rfl <;> rfl
      have hp5 : (w4.alloc (.cells #[.slice (some ⟨cb, 0, none⟩) s.N ccap, .map (some W.heap.size), .int .i64 s.pw] 58)).heap[w4.heap.size]? = some (.cells #[.slice (some ⟨cb, 0, none⟩) s.N ccap, .map (some W.heap.size), .int .i64 s.pw] 58) := alloc_at _ _
      have hs5 : (w4.alloc (.cells #[.slice (some ⟨cb, 0, none⟩) s.N ccap, .map (some W.heap.size), .int .i64 s.pw] 58)).heap.size = w4.heap.size + 1 := by simp
      refine wpX_to _ (.pointer (some ⟨w4.heap.size, 0, none⟩)) (w4.alloc (.cells #[.slice (some ⟨cb, 0, none⟩) s.N ccap, .map (some W.heap.size), .int .i64 s.pw] 58)) rfl rfl (by simp [go_sem]) (fun X => RowAt p 3 (dkV s.N M.sb M.cp M.mb s.pw) X) (fun X hX => hX) ((hst.carry hX4).carry hX5) ?_
      simp only [List.getElem_toArray, List.getElem_cons_zero, List.getElem_cons_succ, Act.put, List.setIfInBounds_toArray, List.set_cons_zero, List.set_cons_succ]
      generalize w4.alloc (.cells #[.slice (some ⟨cb, 0, none⟩) s.N ccap, .map (some W.heap.size), .int .i64 s.pw] 58) = w5 at *
      have hEa := Ext.trans (Ext.trans hD hX4) hX5
      have hEz := Ext.trans hI.ext hEa
      have hWs : W.heap.size < wr.heap.size := hI.mp.lt
      have hs4 : wr.heap.size ≤ w4.heap.size := Below.size (Ext.trans hD hX4)
      have hcbl := hrow4.2.2
      have hcb' : wr.heap.size ≤ cb := hcb
      have hMz : MapAt Try.prog 3 W.heap.size C km w5 := (hI.mp.same (Below.block hEa _ hI.mp.lt)).mono (by have := hI.jc; omega)
      have hall : ∀ n : Nat, n < s.N → (M.m n = none ∧ km n = none) ∨ ∃ v', km n = some v' ∧ M.m n ≠ none ∧ OwnB W.heap.size 31 v' (s.kc n) (M.us n) w5 := fun n hn => by
        rcases hI.here n hn (hdone _ (h.out.ok n hn)) with a | ⟨v', a1, a2, a3⟩
        · exact .inl a
        · exact .inr ⟨v', a1, a2, a3.ext hEa⟩
      have hla : ∀ (n : Nat) v b, n < s.N → km n = some v → v.ownBlock = some b → b ≠ W.heap.size ∧ W.heap.size ≤ b ∧ b < wr.heap.size := hI.la
      have hO5 : OwnB wr.drew.heap.size 31 (.slice (some ⟨cb, 0, none⟩) s.N ccap) s.N M.sv w5 := hO4'.ext hX5
      have hdk : Hid (DkM (fun i => i = w4.heap.size ∨ i = cb ∨ i = W.heap.size ∨ ∃ (n : Nat) (v : Value), n < s.N ∧ km n = some v ∧ v.ownBlock = some i) w4.heap.size s C ⟨cb, ccap, W.heap.size, M.sv, km, M.us⟩ w5) := {
        st := hP5
        n4 := h.out.n4
        pk := h.out.pk
        ncp := hcc
        sure := hrow4.carry hX5
        mp := hMz
        cont := fun i hi => (h.out.cont i hi).ext hEz
        keys := hI.keys
        list := fun n hn => by
          rcases hall n hn with ⟨a1, a2⟩ | ⟨v', a1, a2, a3⟩
          · rcases h.out.list n hn with ⟨_, b2⟩ | ⟨v, b1, _⟩
            · exact .inl ⟨a2, b2⟩
            · rw [a1] at b1
              cases b1
          · rcases h.out.list n hn with ⟨b1, _⟩ | ⟨v, b1, b2, _⟩
            · exact absurd b1 a2
            · exact .inr ⟨v', a1, b2, a3.down (Nat.zero_le _)⟩
        writes := fun n j hn hj => (h.out.writes n j hn hj).ext hEz
        kcC := h.out.kcC
        fp := .inl rfl
        fs := .inr (.inl rfl)
        fm := .inr (.inr (.inl rfl))
        fl := fun n v b hn hv hb => .inr (.inr (.inr ⟨n, v, hn, hv, hb⟩))
        nb := fun i hi => by
          rcases hi with rfl | rfl | rfl | ⟨n, v, hn, hv, hb⟩
          · rintro ⟨cur, fz, hb⟩
            rw [hp5] at hb
            injection hb with hb
            injection hb with _ hb
            exact absurd hb (by decide)
          · exact own_notB hO5 rfl
          · exact map_notB hMz
          · rcases hall n hn with ⟨_, a2⟩ | ⟨v', a1, _, a3⟩
            · rw [hv] at a2
              cases a2
            · rw [hv] at a1
              injection a1 with a1
              subst a1
              exact own_notB a3 hb
        lt := fun i hi => by
          rcases hi with rfl | rfl | rfl | ⟨n, v, hn, hv, hb⟩
          · omega
          · omega
          · omega
          · have := hla n v i hn hv hb
            omega
        ps := by show w4.heap.size ≠ cb; omega
        pm := by show w4.heap.size ≠ W.heap.size; omega
        sm := by show cb ≠ W.heap.size; omega
        la := fun n v b hn hv hb => by
          have := hla n v b hn hv hb
          exact ⟨by omega, by show b ≠ cb; omega, this.1⟩
        ll := hI.ll }
      have hG : Hid (∀ i, (i = w4.heap.size ∨ i = cb ∨ i = W.heap.size ∨ ∃ (n : Nat) (v : Value), n < s.N ∧ km n = some v ∧ v.ownBlock = some i) → W.heap.size ≤ i) := fun i hi => by
        rcases hi with rfl | rfl | rfl | ⟨n, v, hn, hv, hb⟩
        · omega
        · omega
        · omega
        · exact (hla n v i hn hv hb).2.1
      replace hEz := hideit hEz
      refine wpX_f _ (.pointer (some ⟨w4.heap.size, 0, none⟩)) rfl rfl (fun X _ => by simp [go_sem]) ?_
      simp only [List.getElem_toArray, List.getElem_cons_zero, List.getElem_cons_succ, Act.put, List.setIfInBounds_toArray, List.set_cons_zero, List.set_cons_succ]
      refine wpX_nil ?_
      clear hO5 hla hall hMz hcb' hcbl hs4 hWs hEa hp5 hs5 hP5 hX5 hO4' hrow4 hO4 hX4 kcl hst hd hEd hD hI hS hdone
      generalize w4.heap.size = qq at *
      go_wp2
      go_ret
      exact ⟨_, _, _, rfl, hdk.out, hEz.out, hG.out⟩
    · obtain ⟨n, rfl, hn⟩ := h.out.keys x hx (by rw [hmx]; simp)
      have hE3 : Ext W w3 := Ext.but hI.ext hg3 (Nat.le_succ _)
      obtain ⟨hk, hO⟩ : 0 < s.kc n ∧ OwnB 0 31 v (s.kc n) (M.us n) w3 := by
        rcases h.out.list n hn with ⟨h2, _⟩ | ⟨v', h2, h3, h4⟩
        · rw [show M.m n = none from h2] at hmx
          cases hmx
        · rw [show M.m n = some v' from h2] at hmx
          injection hmx with hmx
          subst hmx
          exact ⟨h3, h4.ext hE3⟩
      have hkC := h.out.kcC n hn
      obtain ⟨rb, rcap, rfl, -, hrc, -, hrow⟩ := hO.lies hk
      have h1c : ∀ j, j < s.kc n → (M.us n j).oneCell' = true := fun j hj => by
        obtain ⟨b, cap, hv, _⟩ := h.out.writes n j hn hj
        rw [hv]
        rfl
      have kcl := hideit (clone54 ⟨rb, 0, none⟩ (s.kc n) rcap (M.us n) w3 h1c (RowAt.lie hrow _ (Nat.le_refl _)) (by omega))
      have hM3 : MapAt Try.prog 3 W.heap.size j km w3 := hI.mp.kept hg3 (by simp)
      have hme0 := hideit hI.rg.left_eq
      replace hcl := hideit hcl
      go_upto_region 5 with (fail)
      refine wp_region_lit ?_
      refine wpList_to rfl (.tuple #[.bool true, .int .i64 (n : Int), .slice (some ⟨rb, 0, none⟩) (s.kc n) rcap]) w3 (exec_next (.tmp 13) rfl rfl hrn) ?_
      simp only [Act.put, List.setIfInBounds_toArray, List.set_cons_zero, List.set_cons_succ]
      go_upto_region 6 with (fail)
      refine wp_region_lit ?_
      refine wpList_run rfl (.tuple #[.int .i64 (n : Int), .slice (some ⟨rb, 0, none⟩) (s.kc n) rcap]) (exec_entry (.tmp 13) rfl rfl hen) ?_
      simp only [Act.put, List.setIfInBounds_toArray, List.set_cons_zero, List.set_cons_succ]
      refine wpList_run rfl (.int .i64 (n : Int)) (by simp [go_sem]) ?_
      simp only [Act.put, List.setIfInBounds_toArray, List.set_cons_zero, List.set_cons_succ]
      refine wpList_run rfl (.slice (some ⟨rb, 0, none⟩) (s.kc n) rcap) (by simp [go_sem]) ?_
      simp only [Act.put, List.setIfInBounds_toArray, List.set_cons_zero, List.set_cons_succ]
      refine wpList_run rfl (.int .i64 (n : Int)) (by simp [go_sem]) ?_
      simp only [Act.put, List.setIfInBounds_toArray, List.set_cons_zero, List.set_cons_succ]
      refine wpList_run rfl (.slice (some ⟨rb, 0, none⟩) (s.kc n) rcap) (by simp [go_sem]) ?_
      simp only [Act.put, List.setIfInBounds_toArray, List.set_cons_zero, List.set_cons_succ]
      clear hrn hen
      go_upto_region 7 with (fail)
      refine wp_region_lit ?_
      refine wpList_run rfl (.map (some W.heap.size)) (by simp [go_sem]) ?_
      simp only [Act.put, List.setIfInBounds_toArray, List.set_cons_zero, List.set_cons_succ]
      refine wpList_run rfl (.int .i64 (n : Int)) (by simp [go_sem]) ?_
      simp only [Act.put, List.setIfInBounds_toArray, List.set_cons_zero, List.set_cons_succ]
      refine wpList_run rfl (.slice (some ⟨rb, 0, none⟩) (s.kc n) rcap) (by simp [go_sem]) ?_
      simp only [Act.put, List.setIfInBounds_toArray, List.set_cons_zero, List.set_cons_succ]
      refine wpList_call rfl (by simp [go_sem]) ((kcl.out).mono ?_)
      rintro e w4 ⟨v4, rfl, hO4, hX4⟩
      refine ⟨_, rfl, ?_⟩
      simp only [Act.put, List.setIfInBounds_toArray, List.set_cons_zero, List.set_cons_succ]
      obtain ⟨w5, hr5, hm5, hg5, hs5⟩ := (hM3.same (Below.block hX4 _ hM3.lt)).put (t := 56) Try.underlying3 Try.underlying56 (by have := hI.jc; unfold maxLen; omega) (h.out.ok n hn) v4
      have hb4 : ∀ b, v4.ownBlock = some b → w3.heap.size ≤ b ∧ b < w4.heap.size := fun b hb => hO4.lt b hb
      have hWs : W.heap.size < wr.heap.size := hI.mp.lt
      have hs34 := Below.size hX4
      have hO5 := hO4.kept hg5 (by
        cases hv : v4.ownBlock with
        | none => exact .inl rfl
        | some b =>
          refine .inr fun e => ?_
          injection e with e
          have := hb4 b hv
          omega)
      have hE5 : Ext W w5 := Ext.but (Ext.trans hE3 hX4) hg5 (Nat.le_refl _)
      have hmbl := h.out.lt _ h.out.fm
      have hR5 : RangeAt Try.prog 3 M.mb (W.heap.size + 1) C M.m (fun y => left y && !decide (y = (n : Int))) cnt' w5 := (hR3.kept (row := none) ⟨Below.os hX4, Below.tape hX4, Below.output hX4, Below.size hX4, fun i hi _ => Below.block hX4 i hi⟩ (by simp) (by simp)).kept hg5 (by simp; omega) (by simp)
      have hcast : ∀ {n' : Nat}, n' ≠ n → ((n' : Int)) ≠ (n : Int) := fun hne e => hne (by omega)
      have hkept : ∀ (n' : Nat) v', n' < s.N → km n' = some v' → ∀ g' k', OwnB W.heap.size 31 v' k' g' wr → OwnB W.heap.size 31 v' k' g' w5 := fun n' v' hn' hv' g' k' hO' => by
        have a1 := hO'.kept hg3 (by
          cases hv : v'.ownBlock with
          | none => exact .inl rfl
          | some b =>
            refine .inr fun e => ?_
            injection e with e
            subst e
            obtain ⟨_, ⟨q1, _⟩ | ⟨g', cap, cur, q1, _, q2, _⟩⟩ := hO'
            · rw [q1] at hv
              cases hv
            · rw [q1] at hv
              injection hv with hv
              subst hv
              obtain ⟨D, lf, ⟨es, clock, since, seen, c0, _, _, _, _, hr, _⟩, _⟩ := hI.rg
              rw [hr] at q2
              cases q2)
        exact (a1.ext hX4).kept hg5 (by
          cases hv : v'.ownBlock with
          | none => exact .inl rfl
          | some b =>
            refine .inr fun e => ?_
            injection e with e
            exact (hI.la n' v' b hn' hv' hv).1 e)
      have hI5 : Hid (FkW s C M W (W.heap.size + 1) (j + 1) (mset km n (some v4)) (fun y => left y && !decide (y = (n : Int))) cnt' w5) := {
        rg := hR5
        mp := hm5
        rn := hI.rn
        jc := by have := hI.jc; have := hcl.out; omega
        ext := hE5
        here := fun n' hn' hl => by
          by_cases e : n' = n
          · subst e
            exact .inr ⟨v4, mset_same _ _ _, by rw [hmx]; simp, hO5.down (by omega)⟩
          · have hd : decide ((n' : Int) = (n : Int)) = false := decide_eq_false (hcast e)
            rw [hd] at hl
            simp at hl
            rw [mset_other _ (hcast e)]
            rcases hI.here n' hn' hl with h1 | ⟨v', a1, a2, a3⟩
            · exact .inl h1
            · exact .inr ⟨v', a1, a2, hkept n' v' hn' a1 _ _ a3⟩
        notY := fun n' hn' hl => by
          by_cases e : n' = n
          · subst e
            simp at hl
          · have hd : decide ((n' : Int) = (n : Int)) = false := decide_eq_false (hcast e)
            rw [hd] at hl
            simp at hl
            rw [mset_other _ (hcast e)]
            exact hI.notY n' hn' hl
        keys := fun x hx hxn => by
          by_cases e : x = (n : Int)
          · exact ⟨n, e, hn⟩
          · rw [mset_other _ e] at hxn
            exact hI.keys x hx hxn
        la := fun n' v' b hn' hv' hb => by
          by_cases e : n' = n
          · subst e
            rw [mset_same] at hv'
            injection hv' with hv'
            subst hv'
            have := hb4 b hb
            omega
          · rw [mset_other _ (hcast e)] at hv'
            have := hI.la n' v' b hn' hv' hb
            omega
        ll := fun n1 n2 v1 v2 b hn1 hn2 hne hv1 hv2 hb1 hb2 => by
          by_cases e1 : n1 = n
          · subst e1
            rw [mset_same] at hv1
            injection hv1 with hv1
            subst hv1
            rw [mset_other _ (hcast (Ne.symm hne))] at hv2
            have := hI.la n2 v2 b hn2 hv2 hb2
            have := hb4 b hb1
            omega
          · rw [mset_other _ (hcast e1)] at hv1
            by_cases e2 : n2 = n
            · subst e2
              rw [mset_same] at hv2
              injection hv2 with hv2
              subst hv2
              have := hI.la n1 v1 b hn1 hv1 hb1
              have := hb4 b hb2
              omega
            · rw [mset_other _ (hcast e2)] at hv2
              exact hI.ll n1 n2 v1 v2 b hn1 hn2 hne hv1 hv2 hb1 hb2 }
      have hme := hideit hR5.left_eq
      refine wpList_st9 rfl w5 (exec_mput (.tmp 19) (.tmp 20) (.tmp 22) rfl rfl rfl rfl hr5) ?_
      simp only [Act.put]
      clear hkept hR5 hE5 hO5 hs34 hWs hb4 hr5 hm5 hg5 hs5 hO4 hX4 kcl hM3 hI hrow hO hE3 hR3 hg3 hs3 hlx hmx hS
      go_wp2
      exact ⟨⟨_, _, _, _, hI5.out⟩, by rw [hme.out, hme0.out]; exact hcl.out⟩
end
end Go.Proofs.Ytfaeieaelfjlpaa
namespace Go.Proofs.Ytfaeieaelfjlpaa
open Go.ChangeShapes Go.WideShapes Go.ChangeAt Go.RowKit Go.BigFrame Go.Maps
/-- an Op's five cells -/
def opc (k m : Int) (u : Value) (bad : Bool) (q : Value) (j : Nat) : Value := if j = 0 then .int .i64 k else if j = 1 then .int .i64 m else if j = 2 then u else if j = 3 then .bool bad else q
/-- what an Op holds, besides its numbers -/
def OpD (u q : Value) (W : World) : Prop := (∃ l b, PV u l b W ∧ l ≤ maxLen) ∧ ∃ kk kb kw, KP q kk kb kw W ∧ kk ≤ maxLen ∧ ∀ i, i < kk → okI (kb i) ∧ okI (kw i)
theorem OpD.ext {u q : Value} {W X : World} (h : OpD u q W) (k : Ext W X) : OpD u q X := by
  obtain ⟨⟨l, b, h1, h2⟩, kk, kb, kw, h3, h4⟩ := h
  exact ⟨⟨l, b, h1.ext k, h2⟩, kk, kb, kw, h3.ext k, h4⟩
/-- Ops that came in -/
def OpsA (v : Value) (W : World) : Prop := ∃ (o : Option Addr) (n cap : Nat) (ks ms : Nat → Int), v = .slice o n cap ∧ n ≤ maxLen ∧ ∀ i, i < n → ∃ (ab ao : Nat) (u : Value) (bad : Bool) (q : Value), o = some ⟨ab, ao, none⟩ ∧ (∀ j, j < 5 → W.cell? ⟨ab, ao + i * 5 + j, none⟩ = some (opc (ks i) (ms i) u bad q j)) ∧ okI (ms i) ∧ OpD u q W
set_option maxRecDepth 100000 in
theorem opsarg {H : Type} {enc : TypeId × Value → H} {W : World} {r : Reach} {b0 base : Nat} {spare : Nat → Bool} {held : Bool} {v : Value} {d : DataW H} {p : List MemPlace}
    (hv : Value.okWide Try.prog W r b0 22 v) (h : DataW.Trod enc Try.prog W base spare held 22 v d p) : OpsA v W := by
  obtain ⟨a, len, cap, rfl⟩ := okWide_slice Try.underlying22 hv
  obtain ⟨fuel, hf⟩ := h
  have hC : Try.prog.cellsOf 34 = 5 := by kernel_rfl
  rcases Go.Deep.open_slice Try.underlying22 hf with ⟨hcs, _⟩ | ⟨x, l, c, m, n, D, Pl, hcs, _, hl, hm, hmm, _, hx⟩
  · simp [Value.cells] at hcs
    obtain ⟨rfl, rfl, rfl⟩ := hcs
    exact ⟨none, 0, 0, fun _ => 0, fun _ => 0, rfl, Nat.zero_le _, fun i hi => by omega⟩
  · simp [Value.cells] at hcs
    obtain ⟨rfl, rfl, rfl⟩ := hcs
    have hsp : x.spot = none := by
      simp only [Value.okWide, Try.underlying22, Cell.okWide, Cell.ok] at hv
      exact hv.2.2.2.1
    have hadd : ∀ i, x.add i = ⟨x.block, x.off + i, none⟩ := fun i => by
      obtain ⟨xb, xo, xs⟩ := x
      cases hsp
      unfold Addr.add
      by_cases hi : i = 0
      · subst hi; simp
      · rw [if_neg hi]
    have hxe : x = ⟨x.block, x.off, none⟩ := by
      obtain ⟨xb, xo, xs⟩ := x
      cases hsp
      rfl
    have hlm : len ≤ m := by rw [hmm]; split <;> omega
    have each : ∀ i, i < len → ∃ y : Int × Int, ∃ (u : Value) (bad : Bool) (q : Value), (∀ j, j < 5 → W.cell? ⟨x.block, x.off + i * 5 + j, none⟩ = some (opc y.1 y.2 u bad q j)) ∧ okI y.2 ∧ OpD u q W := by
      intro i hi
      obtain ⟨cs', h1, h2⟩ := hx i (by omega)
      rw [hC] at h1
      obtain ⟨_, hlen, hcell⟩ := World.cells?_some h1
      obtain ⟨k, m', u, bad, q, rfl, hmm', hp, hq⟩ := op_cells h2
      refine ⟨(k, m'), u, bad, q, fun j hj => ?_, hmm', hp, hq⟩
      have e := hcell j (by omega)
      rw [add_add, hadd, ← Nat.add_assoc] at e
      rw [e]
      rcases (by omega : j = 0 ∨ j = 1 ∨ j = 2 ∨ j = 3 ∨ j = 4) with rfl | rfl | rfl | rfl | rfl <;> rfl
    obtain ⟨y, hy⟩ := Go.Deep.choose_lt each
    refine ⟨some x, len, cap, fun i => (y i).1, fun i => (y i).2, rfl, by omega, fun i hi => ?_⟩
    obtain ⟨u, bad, q, a1, a2, a3⟩ := hy i hi
    exact ⟨x.block, x.off, u, bad, q, by rw [← hxe], a1, a2, a3⟩
theorem PV.bv {u : Value} {l : Nat} {b : Nat → BitVec 8} {w : World} (h : PV u l b w) (hl : 0 < l) : BV u l b w := by
  rcases h with ⟨_, h0⟩ | ⟨a, cap, h1, h2, h3⟩
  · omega
  · refine .inr ⟨a, cap, h1, h2, h3, ?_⟩
    have := World.block_lt_of_cell? w (a.add 0) (h3 0 hl)
    rwa [add_block] at this
/-- Block of bytes that came in within an Op -/
theorem block_pv (v : Value) (l : Nat) (f : Nat → BitVec 8) (w : World) (hb : PV v l f w) (hl : l ≤ maxLen) : Calls Try.prog 12 #[v] w fun e w' => ∃ v', e = .returned v' ∧ OwnB w.heap.size 5 v' 512 (yv (blkF l f)) w' ∧ Ext w w' := by
  rcases Nat.eq_zero_or_pos l with h0 | h0
  · subst h0
    obtain ⟨o, cap, rfl⟩ := hb.form
    exact block_zero o cap f w
  · exact block_any v l f w (hb.bv h0) hl
end Go.Proofs.Ytfaeieaelfjlpaa
