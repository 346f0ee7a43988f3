/-
  Both disks, one beside the other. The document's Crash, of what may be kept, with a list told by its cells alone.
-/
import Derived.Test.YtfaeieaelfjlpaaQ32
import Derived.Test.YtfaeieaelfjlpaaQ33
import Derived.Test.YtfaeieaelfjlpaaQ22
import Derived.Test.YtfaeieaelfjlpaaQ31
namespace Go.Proofs.Ytfaeieaelfjlpaa
open Go.RowKit Go.BigFrame Go.Maps
section
variable {F : Nat → Prop} {p : Nat} {s : DSt} {C : Nat} {M : DM} {W Y : World}
set_option maxRecDepth 20000 in
set_option maxHeartbeats 4000000 in
theorem dwriteW (h : DkM F p s C M W) (n : Nat) (hn : n < s.N) (hp : s.pw ≠ 0) (o : Option Addr) (cap : Nat) (f : Nat → BitVec 8) (hb : BV (.slice o 512 cap) 512 f W) (hC : C ≤ 4398046511104) :
    Calls Try.prog 11 #[.pointer (some ⟨p, 0, none⟩), .int .i64 (n : Int), .slice o 512 cap] W fun e w' => e = .returned (.int .i64 0) ∧ ∃ F' M', DkM F' p (wrS s n f) (C + 1) M' w' ∧ Keeps F W w' ∧ (∀ i, F' i → F i ∨ W.heap.size ≤ i) ∧ (∀ ob, ob < W.heap.size → (∀ n' j, n' < s.N → j < s.kc n' → (M.us n' j).ownBlock ≠ some ob) → ∀ n' j, n' < s.N → j < (wrS s n f).kc n' → (M'.us n' j).ownBlock ≠ some ob) ∧ M'.sv = M.sv := by
  have kc := dcheckB h n o 512 cap
  rw [cbE_ok hn] at kc
  have ko := doff h
  rw [decide_eq_false hp] at ko
  have hkC := h.kcC n hn
  have hok := h.ok n hn
  obtain ⟨lo, lc, hls⟩ : ∃ lo lc, lsV M n = .slice lo (s.kc n) lc := by
    rcases (h.ls hn).2 with ⟨h1, h2⟩ | ⟨b, c, cur, h1, _⟩
    · exact ⟨none, 0, by rw [h1, h2]⟩
    · exact ⟨_, _, h1⟩
  replace kc := hideit kc
  replace ko := hideit ko
  replace hls := hideit hls
  replace h := hideit h
  replace hb := hideit hb
  clear hp
  go_enter Try.func11, Try.ntmps11
  go_upto_region 6 with (first | (go_at_call 26; refine kc.out.mono ?_; rintro e w9 ⟨rfl, hw9⟩; rw [hw9]; clear hw9) | (go_at_call 22; refine ko.out.mono ?_; rintro e w9 ⟨rfl, hw9⟩; rw [hw9]; clear hw9))
  clear kc ko
  have hD : Ext W W.drew := (Ext.refl W).draw
  have hst0 := (h.out.ext hD).st
  have hmp0 := (h.out.ext hD).mp
  have kcl := hideit (clone_any (.slice o 512 cap) 512 f W.drew (hb.out.ext hD) (by decide))
  refine wp_region_ladz (fun X => RowAt p 3 (dkV s.N M.sb M.cp M.mb s.pw) X ∧ MapAt Try.prog 3 M.mb C M.m X) [15] [(false, 0), (false, 1), (false, 2), (false, 3), (false, 4), (false, 5), (false, 6), (false, 7), (false, 8), (false, 9), (false, 10), (false, 11), (true, 12), (true, 13), (true, 14), (true, 15)] (by kernel_rfl) (by kernel_rfl) (by decide +kernel) (by decide +kernel) (by decide +kernel) (by decide +kernel) ⟨hst0, hmp0⟩ ?_
  refine wpZ_f _ (.pointer (some ⟨p, 0, none⟩)) rfl rfl (fun X _ => by simp [go_sem]) ?_
  simp only [List.getElem_toArray, List.getElem_cons_zero, Act.put, List.setIfInBounds_toArray, List.set_cons_zero, List.set_cons_succ]
  refine wpZ_f _ (.pointer (some ⟨p, 0, none⟩)) rfl rfl (fun X _ => by simp [go_sem]) ?_
  simp only [List.getElem_toArray, List.getElem_cons_zero, List.getElem_cons_succ, Act.put, List.setIfInBounds_toArray, List.set_cons_zero, List.set_cons_succ]
  refine wpZ_f _ (.pointer (some ⟨p, 1, none⟩)) rfl rfl (fun X _ => by simp [go_sem]) ?_
  simp only [List.getElem_toArray, List.getElem_cons_zero, List.getElem_cons_succ, Act.put, List.setIfInBounds_toArray, List.set_cons_zero, List.set_cons_succ]
  refine wpZ_f _ (.map (some M.mb)) rfl rfl (fun X hX => by have e := hX.1.1 1 (by decide); rw [show dkV s.N M.sb M.cp M.mb s.pw 1 = .map (some M.mb) from rfl] at e; simp [go_sem, e]) ?_
  simp only [List.getElem_toArray, List.getElem_cons_zero, List.getElem_cons_succ, Act.put, List.setIfInBounds_toArray, List.set_cons_zero, List.set_cons_succ]
  refine wpZ_f _ (.int .i64 (n : Int)) rfl rfl (fun X _ => by simp [go_sem]) ?_
  simp only [List.getElem_toArray, List.getElem_cons_zero, List.getElem_cons_succ, Act.put, List.setIfInBounds_toArray, List.set_cons_zero, List.set_cons_succ]
  refine wpZ_f _ (.pointer (some ⟨p, 0, none⟩)) rfl rfl (fun X _ => by simp [go_sem]) ?_
  simp only [List.getElem_toArray, List.getElem_cons_zero, List.getElem_cons_succ, Act.put, List.setIfInBounds_toArray, List.set_cons_zero, List.set_cons_succ]
  refine wpZ_f _ (.pointer (some ⟨p, 0, none⟩)) rfl rfl (fun X _ => by simp [go_sem]) ?_
  simp only [List.getElem_toArray, List.getElem_cons_zero, List.getElem_cons_succ, Act.put, List.setIfInBounds_toArray, List.set_cons_zero, List.set_cons_succ]
  refine wpZ_f _ (.pointer (some ⟨p, 1, none⟩)) rfl rfl (fun X _ => by simp [go_sem]) ?_
  simp only [List.getElem_toArray, List.getElem_cons_zero, List.getElem_cons_succ, Act.put, List.setIfInBounds_toArray, List.set_cons_zero, List.set_cons_succ]
  refine wpZ_f _ (.map (some M.mb)) rfl rfl (fun X hX => by have e := hX.1.1 1 (by decide); rw [show dkV s.N M.sb M.cp M.mb s.pw 1 = .map (some M.mb) from rfl] at e; simp [go_sem, e]) ?_
  simp only [List.getElem_toArray, List.getElem_cons_zero, List.getElem_cons_succ, Act.put, List.setIfInBounds_toArray, List.set_cons_zero, List.set_cons_succ]
  refine wpZ_f _ (.int .i64 (n : Int)) rfl rfl (fun X _ => by simp [go_sem]) ?_
  simp only [List.getElem_toArray, List.getElem_cons_zero, List.getElem_cons_succ, Act.put, List.setIfInBounds_toArray, List.set_cons_zero, List.set_cons_succ]
  refine wpZ_f _ (.slice lo (s.kc n) lc) rfl rfl (fun X hX => by have e := hX.2.look (t := 56) Try.underlying3 Try.underlying56 (zero54 X) hok; rw [show (M.m n).getD (.slice none 0 0) = .slice lo (s.kc n) lc from hls.out] at e; simp [go_sem, e]) ?_
  simp only [List.getElem_toArray, List.getElem_cons_zero, List.getElem_cons_succ, Act.put, List.setIfInBounds_toArray, List.set_cons_zero, List.set_cons_succ]
  refine wpZ_f _ (.slice o 512 cap) rfl rfl (fun X _ => by simp [go_sem]) ?_
  simp only [List.getElem_toArray, List.getElem_cons_zero, List.getElem_cons_succ, Act.put, List.setIfInBounds_toArray, List.set_cons_zero, List.set_cons_succ]
  refine wpZ_call _ rfl rfl (by simp [go_sem]) (kcl.out.mono ?_)
  rintro e w1 ⟨v1, rfl, hO1, hX1⟩
  obtain ⟨o1, c1, rfl⟩ := hO1.bv.form
  refine ⟨_, rfl, fun X => RowAt p 3 (dkV s.N M.sb M.cp M.mb s.pw) X ∧ MapAt Try.prog 3 M.mb C M.m X, .inr fun X hX => hX, ⟨hst0.carry hX1, hmp0.same (Below.block hX1 _ hmp0.lt)⟩, ?_⟩
  simp only [List.getElem_toArray, List.getElem_cons_zero, List.getElem_cons_succ, Act.put, List.setIfInBounds_toArray, List.set_cons_zero, List.set_cons_succ]
  have hE1 := Ext.trans hD hX1
  have hX2 : Ext w1 (w1.alloc (.cells #[.slice o1 512 c1] 31)) := (Below.refl _ _).alloc (Nat.le_refl _) _
  have hE2 := Ext.trans hE1 hX2
  have hcb := (hO1.ext hX2).cb
  refine wpZ_to _ (.slice (some ⟨w1.heap.size, 0, none⟩) 1 1) (w1.alloc (.cells #[.slice o1 512 c1] 31)) rfl rfl (by simp [go_sem]) (fun X => RowAt p 3 (dkV s.N M.sb M.cp M.mb s.pw) X ∧ MapAt Try.prog 3 M.mb C M.m X) (.inr fun X hX => hX) ⟨(h.out.ext hE2).st, (h.out.ext hE2).mp⟩ ?_
  simp only [List.getElem_toArray, List.getElem_cons_zero, List.getElem_cons_succ, Act.put, List.setIfInBounds_toArray, List.set_cons_zero, List.set_cons_succ]
  have hOl := (h.out.ext hE2).ls hn
  have hcl : (w1.alloc (.cells #[.slice o1 512 c1] 31)).cell? ⟨w1.heap.size, 0, none⟩ = some (.slice o1 512 c1) := by rw [World.cell?_alloc_new]; rfl
  obtain ⟨v3, w3, hr3, hO3, hg3, hl3⟩ := run_grow54 hOl w1.heap.size (.slice o1 512 c1) hcl rfl (by omega) 54
  have hsz : W.heap.size ≤ w1.heap.size := Below.size hE1
  have hk3 : Keeps (fun i => some i = (lsV M n).ownBlock) W w3 := (Keeps.of_ext hE2).trans (F' := fun i => some i = (lsV M n).ownBlock) (Keeps.of_grown hg3 fun b hb => .inl hb.symm) fun i hi => .inl hi
  rw [hls.out] at hr3
  have hla : ∀ b, (lsV M n).ownBlock = some b → b ≠ p ∧ b ≠ M.sb ∧ b ≠ M.mb := fun b hb => h.out.la n _ b hn (ls_some hb) hb
  have hst3 := h.out.st.keep hk3 fun e => (hla p e.symm).1 rfl
  have hmp3 := h.out.mp.same (hk3.block _ h.out.mp.lt fun e => (hla M.mb e.symm).2.2 rfl)
  have hcb3 := hcb.keep (Keeps.of_grown (F := fun i => some i = (lsV M n).ownBlock) hg3 fun b hb => .inl hb.symm) fun i hi => own_notB hOl hi.symm
  generalize w1.alloc (.cells #[.slice o1 512 c1] 31) = w2 at *
  refine wpZ_to _ v3 w3 rfl rfl (exec_app (.tmp 27) (.tmp 30) rfl rfl rfl hr3) (fun X => RowAt p 3 (dkV s.N M.sb M.cp M.mb s.pw) X ∧ MapAt Try.prog 3 M.mb C M.m X) (.inr fun X hX => hX) ⟨hst3, hmp3⟩ ?_
  simp only [List.getElem_toArray, List.getElem_cons_zero, List.getElem_cons_succ, Act.put, List.setIfInBounds_toArray, List.set_cons_zero, List.set_cons_succ]
  obtain ⟨w4, hr4, hm4, hg4, hs4⟩ := hmp3.put (t := 56) Try.underlying3 Try.underlying56 (by unfold maxLen; omega) hok v3
  have hk4 : Keeps (fun i => i = M.mb ∨ some i = (lsV M n).ownBlock) W w4 := ((hk3.weak fun i hi => .inr hi).trans (F' := fun i => i = M.mb ∨ some i = (lsV M n).ownBlock) (Keeps.of_grown hg4 fun b hb => .inl (.inl (by injection hb with hb; exact hb.symm))) fun i hi => .inl hi)
  have hO4 := hO3.kept hg4 (by
    cases hv : v3.ownBlock with
    | none => exact .inl rfl
    | some b =>
      refine .inr fun e => ?_
      injection e with e
      subst e
      rcases hl3 with hl | hl
      · exact (hla M.mb (hl ▸ hv)).2.2 rfl
      · rw [hv] at hl
        injection hl with hl
        have := h.out.lt _ h.out.fm
        have := Below.size hX2
        omega)
  have hcb4 := hcb3.keep (F := fun i => i = M.mb) (Keeps.of_grown hg4 fun b hb => .inl (by injection hb with hb; exact hb.symm)) fun i hi => by subst hi; exact map_notB hmp3
  have hfin := h.out.wrote hn hk4 hm4 hO4 (hl3.imp id fun hl => ⟨_, hl, by have := Below.size hX2; omega⟩) (fun j hj => if_neg (by omega)) (if_pos rfl) hcb4
  have hkF : Keeps F W w4 := ⟨hk4.os, hk4.tape, hk4.output, hk4.size, fun i hi hnF => hk4.block i hi fun e => hnF (by
    rcases e with rfl | e
    · exact h.out.fm
    · exact h.out.fl n _ i hn (ls_some e.symm) e.symm)⟩
  have hF' : ∀ i, ((F i ∧ some i ≠ (lsV M n).ownBlock) ∨ some i = v3.ownBlock) → F i ∨ W.heap.size ≤ i := fun i hi => by
    rcases hi with hi | hi
    · exact .inl hi.1
    · rcases hl3 with hl | hl
      · rw [hl] at hi
        exact .inl (h.out.fl n _ i hn (ls_some hi.symm) hi.symm)
      · rw [hl] at hi
        injection hi with hi
        have := Below.size hX2
        exact .inr (by omega)
  have hAv : Hid (∀ ob, ob < W.heap.size → (∀ n' j, n' < s.N → j < s.kc n' → (M.us n' j).ownBlock ≠ some ob) → ∀ n' j, n' < s.N → j < (wrS s n f).kc n' → (upN M.us n (fun j => if j = s.kc n then Value.slice o1 512 c1 else M.us n j) n' j).ownBlock ≠ some ob) := fun ob hob hav n' j hn' hj => by
    by_cases e : n' = n
    · subst e
      rw [upN_same]
      have hj' : j < upN s.kc n' (s.kc n' + 1) n' := hj
      rw [upN_same] at hj'
      by_cases e2 : j = s.kc n'
      · simp only [if_pos e2]
        intro e3
        have := (hO1.lt _ e3).1
        have h5 : W.drew.heap.size = W.heap.size := rfl
        omega
      · simp only [if_neg e2]
        exact hav n' j hn' (by omega)
    · rw [upN_other _ e]
      have hj' : j < upN s.kc n (s.kc n + 1) n' := hj
      rw [upN_other _ e] at hj'
      exact hav n' j hn' hj'
  obtain ⟨F3, hF3⟩ : ∃ F3 : Nat → Prop, F3 = fun i => (F i ∧ some i ≠ (lsV M n).ownBlock) ∨ some i = v3.ownBlock := ⟨_, rfl⟩
  rw [← hF3] at hfin
  replace hF' : Hid (∀ i, F3 i → F i ∨ W.heap.size ≤ i) := by rw [hF3]; exact hF'
  have ksp := hideit (dspend hfin)
  refine wpZ_st _ w4 rfl rfl (exec_mput (.tmp 20) (.tmp 21) (.tmp 31) rfl rfl rfl rfl hr4) (fun _ => True) (.inl (by simp)) trivial ?_
  simp only [List.getElem_toArray, List.getElem_cons_zero, List.getElem_cons_succ, Act.put]
  refine wpZ_nil ?_
  replace hkF := hideit hkF
  clear hfin hF3 hcb4 hO4 hk4 hs4 hg4 hm4 hr4 hcb3 hmp3 hst3 hk3 hr3 hO3 hg3 hl3 hcl hOl hcb hE2 hX2 hE1 hX1 hO1 hst0 hmp0 kcl hD hla
  go_wp2_with (go_at_call 28; refine ksp.out.mono ?_; rintro e w5 ⟨rfl, hd5, hk5⟩; replace hd5 := hideit hd5; replace hk5 := hideit hk5)
  go_ret
  exact ⟨rfl, F3, _, hd5.out, hkF.out.trans hk5.out hF'.out, hF'.out, hAv.out, rfl⟩
theorem CB.own {v : Value} {f : Nat → BitVec 8} (h : CB v f W) : ∃ b, v.ownBlock = some b ∧ b < W.heap.size := by
  obtain ⟨b, cap, h1, _, _, h4⟩ := h
  exact ⟨b, by rw [h1]; rfl, h4.lt⟩
theorem CB.keepN {v : Value} {f : Nat → BitVec 8} {ob : Option Nat} (h : CB v f W) (k : Keeps (fun i => some i = ob) W Y) (hn : ob = none ∨ v.ownBlock ≠ ob) : CB v f Y := by
  obtain ⟨b, cap, h1, h2, h3, h4⟩ := h
  have hn' : ¬ some b = ob := fun e => by
    rcases hn with hn | hn
    · rw [hn] at e; cases e
    · exact hn (by rw [h1]; exact e)
  exact ⟨b, cap, h1, h2, h3.keep k hn', h4.keep k hn'⟩
/-- bytes that are none of the disk's are turned -/
theorem DkM.keepN {ob : Option Nat} (h : DkM F p s C M W) (k : Keeps (fun i => some i = ob) W Y) (hd : ∀ i, F i → some i ≠ ob) (h1 : ∀ i, i < s.N → ob = none ∨ (M.sv i).ownBlock ≠ ob) (h2 : ∀ n j, n < s.N → j < s.kc n → ob = none ∨ (M.us n j).ownBlock ≠ ob) : DkM F p s C M Y where
  st := h.st.keep k (hd _ h.fp)
  n4 := h.n4
  pk := h.pk
  ncp := h.ncp
  sure := h.sure.keep k (hd _ h.fs)
  mp := h.mp.same (k.block _ h.mp.lt (hd _ h.fm))
  cont := fun i hi => (h.cont i hi).keepN k (h1 i hi)
  keys := h.keys
  list := fun n hn => by
    rcases h.list n hn with h1 | ⟨v, h1, h2, h3⟩
    · exact .inl h1
    · exact .inr ⟨v, h1, h2, h3.keep k fun b hb => hd b (h.fl n v b hn h1 hb)⟩
  writes := fun n j hn hj => (h.writes n j hn hj).keepN k (h2 n j hn hj)
  kcC := h.kcC
  fp := h.fp
  fs := h.fs
  fm := h.fm
  fl := h.fl
  nb := fun i hi hb => h.nb i hi (hb.back k (h.lt i hi) (hd i hi))
  lt := fun i hi => Nat.lt_of_lt_of_le (h.lt i hi) k.size
  ps := h.ps
  pm := h.pm
  sm := h.sm
  la := h.la
  ll := h.ll
end
/-- the program's disk at p and the document's at x: one state of both -/
structure Tw (F G : Nat → Prop) (p x : Nat) (s : DSt) (C : Nat) (M : DM) (stp : Bool) (cl : Int) (R : RM) (W : World) : Prop where
  d : DkM F p s C M W
  r : RdM G x s stp cl R W
  ap : ∀ i, F i → ¬ G i
  on : stp = true → cl = s.pw ∧ 0 ≤ cl
  no : stp = false → s.pw < 0
/-- what a step may turn -/
structure Stp (F G F' G' : Nat → Prop) (W Y : World) : Prop where
  kp : Keeps (fun i => F i ∨ G i) W Y
  hF : ∀ i, F' i → F i ∨ W.heap.size ≤ i
  hG : ∀ i, G' i → G i ∨ W.heap.size ≤ i
section
variable {F G F' G' F2 G2 : Nat → Prop} {p x : Nat} {s s' : DSt} {C C' : Nat} {M M' : DM} {stp stp' : Bool} {cl cl' : Int} {R R' : RM} {W W0 W1 W2 W3 Y : World}
theorem Stp.ext (k : Ext W Y) : Stp F G F G W Y := ⟨Keeps.of_ext k, fun _ h => .inl h, fun _ h => .inl h⟩
theorem Stp.trans (h : Stp F G F' G' W Y) (k : Stp F' G' F2 G2 Y W1) : Stp F G F2 G2 W W1 := by
  have hs := h.kp.size
  refine ⟨h.kp.trans k.kp fun i hi => ?_, fun i hi => ?_, fun i hi => ?_⟩
  · rcases hi with hi | hi
    · rcases h.hF i hi with e | e
      · exact .inl (.inl e)
      · exact .inr e
    · rcases h.hG i hi with e | e
      · exact .inl (.inr e)
      · exact .inr e
  · rcases k.hF i hi with e | e
    · exact h.hF i e
    · exact .inr (by omega)
  · rcases k.hG i hi with e | e
    · exact h.hG i e
    · exact .inr (by omega)
theorem Tw.off (h : Tw F G p x s C M stp cl R W) : decide (s.pw = 0) = offR stp cl := by
  unfold offR
  cases hs : stp with
  | false =>
    have := h.no hs
    rw [Bool.false_and]
    exact decide_eq_false (by omega)
  | true =>
    have := (h.on hs).1
    rw [Bool.true_and, this]
theorem Tw.pos (h : Tw F G p x s C M stp cl R W) (hp : s.pw ≠ 0) : stp = true → 0 < cl := fun hs => by
  have := h.on hs
  omega
theorem Tw.noff (h : Tw F G p x s C M stp cl R W) (hp : s.pw ≠ 0) : offR stp cl = false := by rw [← h.off]; exact decide_eq_false hp
theorem Tw.yoff (h : Tw F G p x s C M stp cl R W) (hp : s.pw = 0) : offR stp cl = true := by rw [← h.off]; exact decide_eq_true hp
theorem Tw.ext (h : Tw F G p x s C M stp cl R W) (k : Ext W Y) : Tw F G p x s C M stp cl R Y := ⟨h.d.ext k, h.r.ext k, h.ap, h.on, h.no⟩
theorem Tw.mono (h : Tw F G p x s C M stp cl R W) (hC : C ≤ C') : Tw F G p x s C' M stp cl R W := { h with d := h.d.mono hC }
/-- behind the program's call the document's disk stands -/
theorem Tw.mid (h : Tw F G p x s C M stp cl R W) (e0 : Ext W W0) (k1 : Keeps F W0 W1) : RdM G x s stp cl R W1 := (h.r.ext e0).keep k1 fun i hi hf => h.ap i hf hi
/-- both calls done -/
theorem Tw.step (h : Tw F G p x s C M stp cl R W) (e0 : Ext W W0) (hd : DkM F' p s' C' M' W2) (k1 : Keeps F W0 W1) (e2 : Ext W1 W2) (hF : ∀ i, F' i → F i ∨ W0.heap.size ≤ i) (hr : RdM G' x s' stp' cl' R' W3) (k3 : Keeps (fun i => i = x ∨ i = R.bb) W2 W3) (hG : ∀ i, G' i → G i ∨ W2.heap.size ≤ i)
    (on : stp' = true → cl' = s'.pw ∧ 0 ≤ cl') (no : stp' = false → s'.pw < 0) : Tw F' G' p x s' C' M' stp' cl' R' W3 ∧ Stp F G F' G' W W3 := by
  have z0 := Below.size e0
  have z1 := k1.size
  have z2 := Below.size e2
  have hx := h.r.lt _ h.r.gx
  have hbb := h.r.lt _ h.r.gb
  have hr2 := (h.mid e0 k1).ext e2
  have hxF : ∀ i, F' i → ¬ (i = x ∨ i = R.bb) := fun i hi e => by
    rcases hF i hi with f | f
    · rcases e with rfl | rfl
      · exact h.ap _ f h.r.gx
      · exact h.ap _ f h.r.gb
    · omega
  refine ⟨⟨hd.keep k3 hxF fun i hi => ?_, hr, fun i hi hg => ?_, on, no⟩, ⟨?_, fun i hi => ?_, fun i hi => ?_⟩⟩
  · rcases hi with rfl | rfl
    · exact hr2.nx
    · exact hr2.nbb
  · have hl := hd.lt i hi
    rcases hG i hg with g | g
    · rcases hF i hi with f | f
      · exact h.ap i f g
      · have := h.r.lt i g; omega
    · omega
  · refine (((Keeps.of_ext (F := fun i => F i ∨ G i) e0).trans (F' := F) k1 fun i hi => .inl (.inl hi)).ext e2).trans (F' := fun i => i = x ∨ i = R.bb) k3 fun i hi => ?_
    rcases hi with rfl | rfl
    · exact .inl (.inr h.r.gx)
    · exact .inl (.inr h.r.gb)
  · rcases hF i hi with f | f
    · exact .inl f
    · exact .inr (by omega)
  · rcases hG i hi with g | g
    · exact .inl g
    · exact .inr (by omega)
end
end Go.Proofs.Ytfaeieaelfjlpaa
namespace Go.Proofs.Ytfaeieaelfjlpaa
open Go.RowKit Go.BigFrame Go.Maps
section
variable {F G : Nat → Prop} {x : Nat} {s : DSt} {stp : Bool} {cl : Int} {R : RM} {W Y : World} {kb kw : Nat → Int}
set_option maxRecDepth 20000 in
set_option maxHeartbeats 8000000 in
theorem rcrashK (h : RdM G x s stp cl R W) (ko : Option Addr) (k kcap : Nat) (hkl : Hid (∀ i, i < k → ∃ a, ko = some a ∧ ¬ G a.block ∧ W.cell? (a.add (i * 2)) = some (.int .i64 (kb i)) ∧ W.cell? ⟨(a.add (i * 2)).block, (a.add (i * 2)).off + 1, none⟩ = some (.int .i64 (kw i)))) (hk9 : k ≤ 140737488355328) (hyes : okD s kb kw k) : Calls Try.prog 33 #[.pointer (some ⟨x, 0, none⟩), .slice ko k kcap] W fun e w' => e = .returned (.int .i64 0) ∧ ∃ R', R'.bb = R.bb ∧ RdM G x (crR s kb kw k) false cl R' w' ∧ Keeps (fun i => i = x ∨ i = R.bb) W w' := by
  replace h := hideit h
  replace hyes := hideit hyes
  have hn4 := h.out.n4
  go_enter Try.func33, Try.ntmps33
  go_wp2
  go_loopw [5] (fun iv X => ∃ i : Nat, i ≤ k ∧ iv = .int .i64 (i : Int) ∧ Ext W X) (fun iv _ => 200000000000000 - (intOf iv).toNat)
  case atStart => exact ⟨0, Nat.zero_le _, rfl, Ext.refl _⟩
  case round =>
    obtain ⟨i, hi, rfl, hE⟩ := hrel
    by_cases hlt : i < k
    · have i1 : (i : Int) < (k : Int) := by omega
      obtain ⟨⟨hin, hw0, hw1⟩, hdp⟩ := hyes.out i hlt
      obtain ⟨m, hm, hmN⟩ := inN_spec hin
      obtain ⟨a, rfl, hGa, d0, d1⟩ := hkl.out i hlt
      have hR := h.out.ext hE
      obtain ⟨lo, lc, hl1, _⟩ := hR.lcell hmN
      have hD : Ext wr wr.drew := (Ext.refl wr).draw
      have e0 : ∀ X, Ext wr.drew X → X.cell? ⟨x, 0, none⟩ = some (.slice (some ⟨R.bb, 0, none⟩) s.N R.cp) := fun X hX => (hR.ext (Ext.trans hD hX)).c0
      have l1 : ∀ X, Ext wr.drew X → X.cell? ⟨R.bb, m * 2 + 1, none⟩ = some (.slice lo (s.kc m) lc) := fun X hX => cell_ext (Ext.trans hD hX) hl1
      have c0 : wr.cell? (a.add (i * 2)) = some (.int .i64 (m : Int)) := by rw [← hm]; exact cell_ext hE d0
      have c1 : ∀ X, Ext wr.drew X → X.cell? ⟨(a.add (i * 2)).block, (a.add (i * 2)).off + 1, none⟩ = some (.int .i64 (kw i)) := fun X hX => cell_ext (Ext.trans (Ext.trans hE hD) hX) d1
      rw [hm, Int.toNat_natCast] at hw1
      have w0 : ¬ kw i < 0 := by omega
      have w1 : ¬ (s.kc m : Int) < kw i := by omega
      have m0 : ¬ (m : Int) < 0 := by omega
      have m1 : ¬ (s.N : Int) ≤ (m : Int) := by omega
      have m2 : (m : Int) < (s.N : Int) := by omega
      have hED := hideit (Ext.trans hE hD)
      replace hdp := hideit hdp
      replace hm := hideit hm
      clear hR hl1 hin d0 d1
      go_upto_region 4 with (fail)
      refine wp_region_lit ?_
      refine wpList_run rfl (.slice (some a) k kcap) (by simp [go_sem]) ?_
      simp only [Act.put, List.setIfInBounds_toArray, List.set_cons_zero, List.set_cons_succ]
      refine wpList_run rfl (.int .i64 (i : Int)) (by simp [go_sem]) ?_
      simp only [Act.put, List.setIfInBounds_toArray, List.set_cons_zero, List.set_cons_succ]
      refine wpList_run rfl (.pointer (some (a.add (i * 2)))) (by simp [go_sem, i1]) ?_
      simp only [Act.put, List.setIfInBounds_toArray, List.set_cons_zero, List.set_cons_succ]
      refine wpList_run rfl (.pointer (some (a.add (i * 2)))) (by simp [go_sem]) ?_
      simp only [Act.put, List.setIfInBounds_toArray, List.set_cons_zero, List.set_cons_succ]
      refine wpList_run rfl (.int .i64 (m : Int)) (by simp [go_sem, c0]) ?_
      simp only [Act.put, List.setIfInBounds_toArray, List.set_cons_zero, List.set_cons_succ]
      refine wpList_run rfl (.int .i64 (m : Int)) (by simp [go_sem]) ?_
      simp only [Act.put, List.setIfInBounds_toArray, List.set_cons_zero, List.set_cons_succ]
      go_upto_region 5 with (fail)
      refine wp_region_lad (fun X => Ext wr.drew X) [(false, 0), (false, 1), (false, 2), (false, 3), (false, 4), (false, 5), (false, 6), (false, 7), (false, 8), (false, 9), (false, 10), (false, 11), (false, 12), (false, 13), (false, 14), (false, 15), (false, 16), (false, 17), (false, 18), (false, 19), (false, 20), (false, 21), (false, 22), (false, 23), (false, 24), (false, 25), (false, 26), (false, 27), (false, 28), (false, 29), (false, 30), (false, 31), (false, 32), (false, 33), (false, 34), (false, 35)] (by kernel_rfl) (by kernel_rfl) (by decide +kernel) (by decide +kernel) (by decide +kernel) (by decide +kernel) (Ext.refl _) ?_
      generalize wr.drew = wd at *
      refine wpX_f _ (.int .i64 (m : Int)) rfl rfl (fun X _ => by simp [go_sem]) ?_
      simp only [List.getElem_toArray, List.getElem_cons_zero, Act.put, List.setIfInBounds_toArray, List.set_cons_zero, List.set_cons_succ]
      refine wpX_f _ (.bool false) rfl rfl (fun X _ => by simp [go_sem, m0]) ?_
      simp only [List.getElem_toArray, List.getElem_cons_zero, List.getElem_cons_succ, Act.put, List.setIfInBounds_toArray, List.set_cons_zero, List.set_cons_succ]
      refine wpX_f _ (.bool false) rfl rfl (fun X _ => by simp [go_sem]) ?_
      simp only [List.getElem_toArray, List.getElem_cons_zero, List.getElem_cons_succ, Act.put, List.setIfInBounds_toArray, List.set_cons_zero, List.set_cons_succ]
      refine wpX_f _ (.int .i64 (m : Int)) rfl rfl (fun X _ => by simp [go_sem]) ?_
      simp only [List.getElem_toArray, List.getElem_cons_zero, List.getElem_cons_succ, Act.put, List.setIfInBounds_toArray, List.set_cons_zero, List.set_cons_succ]
      refine wpX_f _ (.pointer (some ⟨x, 0, none⟩)) rfl rfl (fun X _ => by simp [go_sem]) ?_
      simp only [List.getElem_toArray, List.getElem_cons_zero, List.getElem_cons_succ, Act.put, List.setIfInBounds_toArray, List.set_cons_zero, List.set_cons_succ]
      refine wpX_f _ (.pointer (some ⟨x, 0, none⟩)) rfl rfl (fun X _ => by simp [go_sem]) ?_
      simp only [List.getElem_toArray, List.getElem_cons_zero, List.getElem_cons_succ, Act.put, List.setIfInBounds_toArray, List.set_cons_zero, List.set_cons_succ]
      refine wpX_f _ (.pointer (some ⟨x, 0, none⟩)) rfl rfl (fun X _ => by simp [go_sem]) ?_
      simp only [List.getElem_toArray, List.getElem_cons_zero, List.getElem_cons_succ, Act.put, List.setIfInBounds_toArray, List.set_cons_zero, List.set_cons_succ]
      refine wpX_f _ (.slice (some ⟨R.bb, 0, none⟩) s.N R.cp) rfl rfl (fun X hX => by have e := e0 X hX; simp [go_sem, e]) ?_
      simp only [List.getElem_toArray, List.getElem_cons_zero, List.getElem_cons_succ, Act.put, List.setIfInBounds_toArray, List.set_cons_zero, List.set_cons_succ]
      refine wpX_f _ (.int .i64 (s.N : Int)) rfl rfl (fun X _ => by simp [go_sem]) ?_
      simp only [List.getElem_toArray, List.getElem_cons_zero, List.getElem_cons_succ, Act.put, List.setIfInBounds_toArray, List.set_cons_zero, List.set_cons_succ]
      refine wpX_f _ (.bool false) rfl rfl (fun X _ => by simp [go_sem, m1]) ?_
      simp only [List.getElem_toArray, List.getElem_cons_zero, List.getElem_cons_succ, Act.put, List.setIfInBounds_toArray, List.set_cons_zero, List.set_cons_succ]
      refine wpX_f _ (.bool false) rfl rfl (fun X _ => by simp [go_sem]) ?_
      simp only [List.getElem_toArray, List.getElem_cons_zero, List.getElem_cons_succ, Act.put, List.setIfInBounds_toArray, List.set_cons_zero, List.set_cons_succ]
      refine wpX_f _ (.bool false) rfl rfl (fun X _ => by simp [go_sem]) ?_
      simp only [List.getElem_toArray, List.getElem_cons_zero, List.getElem_cons_succ, Act.put, List.setIfInBounds_toArray, List.set_cons_zero, List.set_cons_succ]
      refine wpX_f _ (.slice (some a) k kcap) rfl rfl (fun X _ => by simp [go_sem]) ?_
      simp only [List.getElem_toArray, List.getElem_cons_zero, List.getElem_cons_succ, Act.put, List.setIfInBounds_toArray, List.set_cons_zero, List.set_cons_succ]
      refine wpX_f _ (.int .i64 (i : Int)) rfl rfl (fun X _ => by simp [go_sem]) ?_
      simp only [List.getElem_toArray, List.getElem_cons_zero, List.getElem_cons_succ, Act.put, List.setIfInBounds_toArray, List.set_cons_zero, List.set_cons_succ]
      refine wpX_f _ (.pointer (some (a.add (i * 2)))) rfl rfl (fun X _ => by simp [go_sem, i1]) ?_
      simp only [List.getElem_toArray, List.getElem_cons_zero, List.getElem_cons_succ, Act.put, List.setIfInBounds_toArray, List.set_cons_zero, List.set_cons_succ]
      refine wpX_f _ (.pointer (some ⟨(a.add (i * 2)).block, (a.add (i * 2)).off + 1, none⟩)) rfl rfl (fun X _ => by simp [go_sem]) ?_
      simp only [List.getElem_toArray, List.getElem_cons_zero, List.getElem_cons_succ, Act.put, List.setIfInBounds_toArray, List.set_cons_zero, List.set_cons_succ]
      refine wpX_f _ (.int .i64 (kw i)) rfl rfl (fun X hX => by have e := c1 X hX; simp [go_sem, e]) ?_
      simp only [List.getElem_toArray, List.getElem_cons_zero, List.getElem_cons_succ, Act.put, List.setIfInBounds_toArray, List.set_cons_zero, List.set_cons_succ]
      refine wpX_f _ (.bool false) rfl rfl (fun X _ => by simp [go_sem, w0]) ?_
      simp only [List.getElem_toArray, List.getElem_cons_zero, List.getElem_cons_succ, Act.put, List.setIfInBounds_toArray, List.set_cons_zero, List.set_cons_succ]
      refine wpX_f _ (.bool false) rfl rfl (fun X _ => by simp [go_sem]) ?_
      simp only [List.getElem_toArray, List.getElem_cons_zero, List.getElem_cons_succ, Act.put, List.setIfInBounds_toArray, List.set_cons_zero, List.set_cons_succ]
      refine wpX_f _ (.bool false) rfl rfl (fun X _ => by simp [go_sem]) ?_
      simp only [List.getElem_toArray, List.getElem_cons_zero, List.getElem_cons_succ, Act.put, List.setIfInBounds_toArray, List.set_cons_zero, List.set_cons_succ]
      refine wpX_f _ (.slice (some a) k kcap) rfl rfl (fun X _ => by simp [go_sem]) ?_
      simp only [List.getElem_toArray, List.getElem_cons_zero, List.getElem_cons_succ, Act.put, List.setIfInBounds_toArray, List.set_cons_zero, List.set_cons_succ]
      refine wpX_f _ (.int .i64 (i : Int)) rfl rfl (fun X _ => by simp [go_sem]) ?_
      simp only [List.getElem_toArray, List.getElem_cons_zero, List.getElem_cons_succ, Act.put, List.setIfInBounds_toArray, List.set_cons_zero, List.set_cons_succ]
      refine wpX_f _ (.pointer (some (a.add (i * 2)))) rfl rfl (fun X _ => by simp [go_sem, i1]) ?_
      simp only [List.getElem_toArray, List.getElem_cons_zero, List.getElem_cons_succ, Act.put, List.setIfInBounds_toArray, List.set_cons_zero, List.set_cons_succ]
      refine wpX_f _ (.pointer (some ⟨(a.add (i * 2)).block, (a.add (i * 2)).off + 1, none⟩)) rfl rfl (fun X _ => by simp [go_sem]) ?_
      simp only [List.getElem_toArray, List.getElem_cons_zero, List.getElem_cons_succ, Act.put, List.setIfInBounds_toArray, List.set_cons_zero, List.set_cons_succ]
      refine wpX_f _ (.int .i64 (kw i)) rfl rfl (fun X hX => by have e := c1 X hX; simp [go_sem, e]) ?_
      simp only [List.getElem_toArray, List.getElem_cons_zero, List.getElem_cons_succ, Act.put, List.setIfInBounds_toArray, List.set_cons_zero, List.set_cons_succ]
      refine wpX_f _ (.pointer (some ⟨x, 0, none⟩)) rfl rfl (fun X _ => by simp [go_sem]) ?_
      simp only [List.getElem_toArray, List.getElem_cons_zero, List.getElem_cons_succ, Act.put, List.setIfInBounds_toArray, List.set_cons_zero, List.set_cons_succ]
      refine wpX_f _ (.pointer (some ⟨x, 0, none⟩)) rfl rfl (fun X _ => by simp [go_sem]) ?_
      simp only [List.getElem_toArray, List.getElem_cons_zero, List.getElem_cons_succ, Act.put, List.setIfInBounds_toArray, List.set_cons_zero, List.set_cons_succ]
      refine wpX_f _ (.pointer (some ⟨x, 0, none⟩)) rfl rfl (fun X _ => by simp [go_sem]) ?_
      simp only [List.getElem_toArray, List.getElem_cons_zero, List.getElem_cons_succ, Act.put, List.setIfInBounds_toArray, List.set_cons_zero, List.set_cons_succ]
      refine wpX_f _ (.slice (some ⟨R.bb, 0, none⟩) s.N R.cp) rfl rfl (fun X hX => by have e := e0 X hX; simp [go_sem, e]) ?_
      simp only [List.getElem_toArray, List.getElem_cons_zero, List.getElem_cons_succ, Act.put, List.setIfInBounds_toArray, List.set_cons_zero, List.set_cons_succ]
      refine wpX_f _ (.int .i64 (m : Int)) rfl rfl (fun X _ => by simp [go_sem]) ?_
      simp only [List.getElem_toArray, List.getElem_cons_zero, List.getElem_cons_succ, Act.put, List.setIfInBounds_toArray, List.set_cons_zero, List.set_cons_succ]
      refine wpX_f _ (.pointer (some ⟨R.bb, m * 2, none⟩)) rfl rfl (fun X _ => by simp [go_sem, m2]) ?_
      simp only [List.getElem_toArray, List.getElem_cons_zero, List.getElem_cons_succ, Act.put, List.setIfInBounds_toArray, List.set_cons_zero, List.set_cons_succ]
      refine wpX_f _ (.pointer (some ⟨R.bb, m * 2 + 1, none⟩)) rfl rfl (fun X _ => by simp [go_sem]) ?_
      simp only [List.getElem_toArray, List.getElem_cons_zero, List.getElem_cons_succ, Act.put, List.setIfInBounds_toArray, List.set_cons_zero, List.set_cons_succ]
      refine wpX_f _ (.slice lo (s.kc m) lc) rfl rfl (fun X hX => by have e := l1 X hX; simp [go_sem, e]) ?_
      simp only [List.getElem_toArray, List.getElem_cons_zero, List.getElem_cons_succ, Act.put, List.setIfInBounds_toArray, List.set_cons_zero, List.set_cons_succ]
      refine wpX_f _ (.int .i64 (s.kc m : Int)) rfl rfl (fun X _ => by simp [go_sem]) ?_
      simp only [List.getElem_toArray, List.getElem_cons_zero, List.getElem_cons_succ, Act.put, List.setIfInBounds_toArray, List.set_cons_zero, List.set_cons_succ]
      refine wpX_f _ (.bool false) rfl rfl (fun X _ => by simp [go_sem, w1]) ?_
      simp only [List.getElem_toArray, List.getElem_cons_zero, List.getElem_cons_succ, Act.put, List.setIfInBounds_toArray, List.set_cons_zero, List.set_cons_succ]
      refine wpX_f _ (.bool false) rfl rfl (fun X _ => by simp [go_sem]) ?_
      simp only [List.getElem_toArray, List.getElem_cons_zero, List.getElem_cons_succ, Act.put, List.setIfInBounds_toArray, List.set_cons_zero, List.set_cons_succ]
      refine wpX_nil ?_
      clear e0 l1 c0 c1 w0 w1 hD
      go_wp2
      go_loopw [7] (fun jv X => ∃ j : Nat, j ≤ i ∧ jv = .int .i64 (j : Int) ∧ Ext W X) (fun jv _ => 200000000000000 - (intOf jv).toNat)
      case atStart => exact ⟨0, Nat.zero_le _, rfl, hED.out⟩
      case round =>
        obtain ⟨j, hj, rfl, hE2⟩ := hrel
        by_cases hji : j < i
        · have j1 : (j : Int) < (i : Int) := by omega
          have j2 : (j : Int) < (k : Int) := by omega
          obtain ⟨a', ea, _, d0, _⟩ := hkl.out j (by omega)
          obtain rfl : a = a' := Option.some.inj ea
          have c0 := cell_ext hE2 d0
          have hne : ¬ kb j = (m : Int) := by rw [← hm.out]; exact hdp.out j hji
          clear d0 ea
          go_upto_region 10 with (fail)
          refine wp_region_lit ?_
          refine wpList_run rfl (.slice (some a) k kcap) (by simp [go_sem]) ?_
          simp only [Act.put, List.setIfInBounds_toArray, List.set_cons_zero, List.set_cons_succ]
          refine wpList_run rfl (.int .i64 (j : Int)) (by simp [go_sem]) ?_
          simp only [Act.put, List.setIfInBounds_toArray, List.set_cons_zero, List.set_cons_succ]
          refine wpList_run rfl (.pointer (some (a.add (j * 2)))) (by simp [go_sem, j2]) ?_
          simp only [Act.put, List.setIfInBounds_toArray, List.set_cons_zero, List.set_cons_succ]
          refine wpList_run rfl (.pointer (some (a.add (j * 2)))) (by simp [go_sem]) ?_
          simp only [Act.put, List.setIfInBounds_toArray, List.set_cons_zero, List.set_cons_succ]
          refine wpList_run rfl (.int .i64 (kb j)) (by simp [go_sem, c0]) ?_
          simp only [Act.put, List.setIfInBounds_toArray, List.set_cons_zero, List.set_cons_succ]
          refine wpList_run rfl (.int .i64 (m : Int)) (by simp [go_sem]) ?_
          simp only [Act.put, List.setIfInBounds_toArray, List.set_cons_zero, List.set_cons_succ]
          refine wpList_run rfl (.bool false) (by simp [go_sem, hne]) ?_
          simp only [Act.put, List.setIfInBounds_toArray, List.set_cons_zero, List.set_cons_succ]
          clear c0
          go_wp2
          exact ⟨⟨j + 1, by omega, by go_num, hE2⟩, by simp [intOf]; omega⟩
        · obtain rfl : j = i := by omega
          have j1 : ¬ (j : Int) < (j : Int) := by omega
          go_wp2
          exact ⟨⟨j + 1, by omega, by go_num, hE2⟩, by simp [intOf]; omega⟩
    · obtain rfl : i = k := by omega
      have i1 : ¬ (i : Int) < (i : Int) := by omega
      have hC0 : Hid (CkR G x s stp cl R kb kw W 0 wr) := ⟨h.out.ext hE, Keeps.of_ext hE⟩
      go_wp2
      go_loopw [8] (fun iv X => ∃ j : Nat, j ≤ i ∧ iv = .int .i64 (j : Int) ∧ CkR G x s stp cl R kb kw W j X) (fun iv _ => 200000000000000 - (intOf iv).toNat)
      case atStart => exact ⟨0, Nat.zero_le _, rfl, hC0.out⟩
      case round =>
        obtain ⟨j, hj, rfl, hI⟩ := hrel
        clear hC0
        by_cases hlt : j < i
        · have i1 : (j : Int) < (i : Int) := by omega
          obtain ⟨⟨hin, hw0, hw1⟩, _⟩ := hyes.out j hlt
          obtain ⟨m, hm, hmN⟩ := inN_spec hin
          obtain ⟨a, rfl, hGa, d0, d1⟩ := hkl.out j hlt
          have hnF : ¬ (a.block = x ∨ a.block = R.bb) := fun e => by
            rcases e with e | e
            · exact hGa (e ▸ h.out.gx)
            · exact hGa (e ▸ h.out.gb)
          have c0 : wr.cell? (a.add (j * 2)) = some (.int .i64 (m : Int)) := by rw [← hm]; exact cell_keep hI.keeps (by rw [add_block]; exact hnF) d0
          have c1 : wr.cell? ⟨(a.add (j * 2)).block, (a.add (j * 2)).off + 1, none⟩ = some (.int .i64 (kw j)) := cell_keep hI.keeps (by show ¬ ((a.add (j * 2)).block = x ∨ (a.add (j * 2)).block = R.bb); rw [add_block]; exact hnF) d1
          rw [hm, Int.toNat_natCast] at hw1
          have m2 : (m : Int) < (s.N : Int) := by omega
          go_upto_region 15 with (fail)
          refine wp_region_lit ?_
          refine wpList_run rfl (.slice (some a) i kcap) (by simp [go_sem]) ?_
          simp only [Act.put, List.setIfInBounds_toArray, List.set_cons_zero, List.set_cons_succ]
          refine wpList_run rfl (.int .i64 (j : Int)) (by simp [go_sem]) ?_
          simp only [Act.put, List.setIfInBounds_toArray, List.set_cons_zero, List.set_cons_succ]
          refine wpList_run rfl (.pointer (some (a.add (j * 2)))) (by simp [go_sem, i1]) ?_
          simp only [Act.put, List.setIfInBounds_toArray, List.set_cons_zero, List.set_cons_succ]
          refine wpList_run rfl (.pointer (some (a.add (j * 2)))) (by simp [go_sem]) ?_
          simp only [Act.put, List.setIfInBounds_toArray, List.set_cons_zero, List.set_cons_succ]
          refine wpList_run rfl (.int .i64 (m : Int)) (by simp [go_sem, c0]) ?_
          simp only [Act.put, List.setIfInBounds_toArray, List.set_cons_zero, List.set_cons_succ]
          refine wpList_run rfl (.int .i64 (m : Int)) (by simp [go_sem]) ?_
          simp only [Act.put, List.setIfInBounds_toArray, List.set_cons_zero, List.set_cons_succ]
          go_upto_region 16 with (fail)
          refine wp_region_lit ?_
          refine wpList_run rfl (.slice (some a) i kcap) (by simp [go_sem]) ?_
          simp only [Act.put, List.setIfInBounds_toArray, List.set_cons_zero, List.set_cons_succ]
          refine wpList_run rfl (.int .i64 (j : Int)) (by simp [go_sem]) ?_
          simp only [Act.put, List.setIfInBounds_toArray, List.set_cons_zero, List.set_cons_succ]
          refine wpList_run rfl (.pointer (some (a.add (j * 2)))) (by simp [go_sem, i1]) ?_
          simp only [Act.put, List.setIfInBounds_toArray, List.set_cons_zero, List.set_cons_succ]
          refine wpList_run rfl (.pointer (some ⟨(a.add (j * 2)).block, (a.add (j * 2)).off + 1, none⟩)) (by simp [go_sem]) ?_
          simp only [Act.put, List.setIfInBounds_toArray, List.set_cons_zero, List.set_cons_succ]
          refine wpList_run rfl (.int .i64 (kw j)) (by simp [go_sem, c1]) ?_
          simp only [Act.put, List.setIfInBounds_toArray, List.set_cons_zero, List.set_cons_succ]
          by_cases hpos : 0 < kw j
          · have hD : Ext wr wr.drew := (Ext.refl wr).draw
            have hS := hideit (hI.step hD hpos)
            have hR := hI.rd.ext hD
            have hkp : 0 < s.kc m := by omega
            obtain ⟨lo, lc, hl1, hl2⟩ := hR.lcell hmN
            obtain ⟨lb, rfl, hlq⟩ := hl2 hkp
            obtain ⟨q, hq⟩ : ∃ q, q = (kw j).toNat - 1 := ⟨_, rfl⟩
            have e0 : ∀ X, Ext wr.drew X → X.cell? ⟨x, 0, none⟩ = some (.slice (some ⟨R.bb, 0, none⟩) s.N R.cp) := fun X hX => (hR.ext hX).c0
            have l1 : ∀ X, Ext wr.drew X → X.cell? ⟨R.bb, m * 2 + 1, none⟩ = some (.slice (some ⟨lb, 0, none⟩) (s.kc m) lc) := fun X hX => cell_ext hX hl1
            have lq : ∀ X, Ext wr.drew X → X.cell? ⟨lb, q, none⟩ = some (.string (tx (s.uc m q))) := fun X hX => cell_ext hX (hlq q (by show q < s.kc m; omega))
            have c1' : ∀ X, Ext wr.drew X → X.cell? ⟨(a.add (j * 2)).block, (a.add (j * 2)).off + 1, none⟩ = some (.int .i64 (kw j)) := fun X hX => cell_ext (Ext.trans hD hX) c1
            have hkm : s.kc m ≤ 9223372036854775807 := by
              obtain ⟨_, cp, _, _, a1, a2, _⟩ := (hR.list m hmN).lies hkp
              have a1' : s.kc m ≤ cp := a1
              unfold maxLen at a2
              omega
            have wq : IntKind.i64.wrap (kw j - 1) = (q : Int) := by rw [IntKind.wrap_i64]; omega
            have q1 : (q : Int) < (s.kc m : Int) := by omega
            have hrr := hR.row
            have eS : wr.drew.cell? ⟨R.bb, m * 2, none⟩ = some (.string (tx (crF s kb kw j m))) := by
              rw [hrr.1 (m * 2) (by show m * 2 < s.N * 2; omega)]
              unfold blV
              rw [if_pos (by omega), show m * 2 / 2 = m by omega]
            have zS : wr.drew.frozen? ⟨R.bb, m * 2, none⟩ = false := hrr.2.1 (m * 2) (by show m * 2 < s.N * 2; omega)
            rw [hm, Int.toNat_natCast, ← hq] at hS
            generalize tx (s.uc m q) = b at *
            replace hq := hideit hq
            replace hm := hideit hm
            clear hR hl1 hl2 hlq hI hrr c0
            refine wpList_run rfl (.bool true) (by simp [go_sem, hpos]) ?_
            simp only [Act.put, List.setIfInBounds_toArray, List.set_cons_zero, List.set_cons_succ]
            clear c1
            go_upto_region 17 with (fail)
            refine wp_region_ladz (fun X => Ext wr.drew X) [23] [(false, 0), (false, 1), (false, 2), (false, 3), (false, 4), (false, 5), (false, 6), (false, 7), (false, 8), (false, 9), (false, 10), (false, 11), (false, 12), (false, 13), (false, 14), (false, 15), (false, 16), (false, 17), (false, 18), (false, 19), (false, 20), (false, 21), (false, 22), (true, 23)] (by kernel_rfl) (by kernel_rfl) (by decide +kernel) (by decide +kernel) (by decide +kernel) (by decide +kernel) (Ext.refl _) ?_
            generalize wr.drew = wd at *
            refine wpZ_f _ (.pointer (some ⟨x, 0, none⟩)) rfl rfl (fun X _ => by simp [go_sem]) ?_
            simp only [List.getElem_toArray, List.getElem_cons_zero, Act.put, List.setIfInBounds_toArray, List.set_cons_zero, List.set_cons_succ]
            refine wpZ_f _ (.pointer (some ⟨x, 0, none⟩)) rfl rfl (fun X _ => by simp [go_sem]) ?_
            simp only [List.getElem_toArray, List.getElem_cons_zero, List.getElem_cons_succ, Act.put, List.setIfInBounds_toArray, List.set_cons_zero, List.set_cons_succ]
            refine wpZ_f _ (.pointer (some ⟨x, 0, none⟩)) rfl rfl (fun X _ => by simp [go_sem]) ?_
            simp only [List.getElem_toArray, List.getElem_cons_zero, List.getElem_cons_succ, Act.put, List.setIfInBounds_toArray, List.set_cons_zero, List.set_cons_succ]
            refine wpZ_f _ (.slice (some ⟨R.bb, 0, none⟩) s.N R.cp) rfl rfl (fun X hX => by have e := e0 X hX; simp [go_sem, e]) ?_
            simp only [List.getElem_toArray, List.getElem_cons_zero, List.getElem_cons_succ, Act.put, List.setIfInBounds_toArray, List.set_cons_zero, List.set_cons_succ]
            refine wpZ_f _ (.int .i64 (m : Int)) rfl rfl (fun X _ => by simp [go_sem]) ?_
            simp only [List.getElem_toArray, List.getElem_cons_zero, List.getElem_cons_succ, Act.put, List.setIfInBounds_toArray, List.set_cons_zero, List.set_cons_succ]
            refine wpZ_f _ (.pointer (some ⟨x, 0, none⟩)) rfl rfl (fun X _ => by simp [go_sem]) ?_
            simp only [List.getElem_toArray, List.getElem_cons_zero, List.getElem_cons_succ, Act.put, List.setIfInBounds_toArray, List.set_cons_zero, List.set_cons_succ]
            refine wpZ_f _ (.pointer (some ⟨x, 0, none⟩)) rfl rfl (fun X _ => by simp [go_sem]) ?_
            simp only [List.getElem_toArray, List.getElem_cons_zero, List.getElem_cons_succ, Act.put, List.setIfInBounds_toArray, List.set_cons_zero, List.set_cons_succ]
            refine wpZ_f _ (.pointer (some ⟨x, 0, none⟩)) rfl rfl (fun X _ => by simp [go_sem]) ?_
            simp only [List.getElem_toArray, List.getElem_cons_zero, List.getElem_cons_succ, Act.put, List.setIfInBounds_toArray, List.set_cons_zero, List.set_cons_succ]
            refine wpZ_f _ (.slice (some ⟨R.bb, 0, none⟩) s.N R.cp) rfl rfl (fun X hX => by have e := e0 X hX; simp [go_sem, e]) ?_
            simp only [List.getElem_toArray, List.getElem_cons_zero, List.getElem_cons_succ, Act.put, List.setIfInBounds_toArray, List.set_cons_zero, List.set_cons_succ]
            refine wpZ_f _ (.int .i64 (m : Int)) rfl rfl (fun X _ => by simp [go_sem]) ?_
            simp only [List.getElem_toArray, List.getElem_cons_zero, List.getElem_cons_succ, Act.put, List.setIfInBounds_toArray, List.set_cons_zero, List.set_cons_succ]
            refine wpZ_f _ (.pointer (some ⟨R.bb, m * 2, none⟩)) rfl rfl (fun X _ => by simp [go_sem, m2]) ?_
            simp only [List.getElem_toArray, List.getElem_cons_zero, List.getElem_cons_succ, Act.put, List.setIfInBounds_toArray, List.set_cons_zero, List.set_cons_succ]
            refine wpZ_f _ (.pointer (some ⟨R.bb, m * 2 + 1, none⟩)) rfl rfl (fun X _ => by simp [go_sem]) ?_
            simp only [List.getElem_toArray, List.getElem_cons_zero, List.getElem_cons_succ, Act.put, List.setIfInBounds_toArray, List.set_cons_zero, List.set_cons_succ]
            refine wpZ_f _ (.slice (some ⟨lb, 0, none⟩) (s.kc m) lc) rfl rfl (fun X hX => by have e := l1 X hX; simp [go_sem, e]) ?_
            simp only [List.getElem_toArray, List.getElem_cons_zero, List.getElem_cons_succ, Act.put, List.setIfInBounds_toArray, List.set_cons_zero, List.set_cons_succ]
            refine wpZ_f _ (.slice (some a) i kcap) rfl rfl (fun X _ => by simp [go_sem]) ?_
            simp only [List.getElem_toArray, List.getElem_cons_zero, List.getElem_cons_succ, Act.put, List.setIfInBounds_toArray, List.set_cons_zero, List.set_cons_succ]
            refine wpZ_f _ (.int .i64 (j : Int)) rfl rfl (fun X _ => by simp [go_sem]) ?_
            simp only [List.getElem_toArray, List.getElem_cons_zero, List.getElem_cons_succ, Act.put, List.setIfInBounds_toArray, List.set_cons_zero, List.set_cons_succ]
            refine wpZ_f _ (.pointer (some (a.add (j * 2)))) rfl rfl (fun X _ => by simp [go_sem, i1]) ?_
            simp only [List.getElem_toArray, List.getElem_cons_zero, List.getElem_cons_succ, Act.put, List.setIfInBounds_toArray, List.set_cons_zero, List.set_cons_succ]
            refine wpZ_f _ (.pointer (some ⟨(a.add (j * 2)).block, (a.add (j * 2)).off + 1, none⟩)) rfl rfl (fun X _ => by simp [go_sem]) ?_
            simp only [List.getElem_toArray, List.getElem_cons_zero, List.getElem_cons_succ, Act.put, List.setIfInBounds_toArray, List.set_cons_zero, List.set_cons_succ]
            refine wpZ_f _ (.int .i64 (kw j)) rfl rfl (fun X hX => by have e := c1' X hX; simp [go_sem, e]) ?_
            simp only [List.getElem_toArray, List.getElem_cons_zero, List.getElem_cons_succ, Act.put, List.setIfInBounds_toArray, List.set_cons_zero, List.set_cons_succ]
            refine wpZ_f _ (.int .i64 (q : Int)) rfl rfl (fun X _ => by simp [go_sem, wq]) ?_
            simp only [List.getElem_toArray, List.getElem_cons_zero, List.getElem_cons_succ, Act.put, List.setIfInBounds_toArray, List.set_cons_zero, List.set_cons_succ]
            refine wpZ_f _ (.pointer (some ⟨lb, q, none⟩)) rfl rfl (fun X _ => by simp [go_sem, q1]) ?_
            simp only [List.getElem_toArray, List.getElem_cons_zero, List.getElem_cons_succ, Act.put, List.setIfInBounds_toArray, List.set_cons_zero, List.set_cons_succ]
            refine wpZ_f _ (.string b) rfl rfl (fun X hX => by have e := lq X hX; simp [go_sem, e]) ?_
            simp only [List.getElem_toArray, List.getElem_cons_zero, List.getElem_cons_succ, Act.put, List.setIfInBounds_toArray, List.set_cons_zero, List.set_cons_succ]
            refine wpZ_f _ (.pointer (some ⟨R.bb, m * 2, none⟩)) rfl rfl (fun X _ => by simp [go_sem, m2]) ?_
            simp only [List.getElem_toArray, List.getElem_cons_zero, List.getElem_cons_succ, Act.put, List.setIfInBounds_toArray, List.set_cons_zero, List.set_cons_succ]
            refine wpZ_f _ (.pointer (some ⟨R.bb, m * 2, none⟩)) rfl rfl (fun X _ => by simp [go_sem]) ?_
            simp only [List.getElem_toArray, List.getElem_cons_zero, List.getElem_cons_succ, Act.put, List.setIfInBounds_toArray, List.set_cons_zero, List.set_cons_succ]
            refine wpZ_st _ (wd.setCell ⟨R.bb, m * 2, none⟩ (.string b)) rfl rfl (by simp [go_sem, eS, zS]) (fun _ => True) (.inl (by simp)) trivial ?_
            simp only [List.getElem_toArray, List.getElem_cons_zero, List.getElem_cons_succ, Act.put]
            refine wpZ_nil ?_
            clear e0 l1 lq c1' eS zS hD
            go_wp2
            exact ⟨⟨j + 1, by omega, by go_num, hS.out⟩, by simp [intOf]; omega⟩
          · have hS := hideit (hI.skip hpos)
            refine wpList_run rfl (.bool false) (by simp [go_sem, hpos]) ?_
            simp only [Act.put, List.setIfInBounds_toArray, List.set_cons_zero, List.set_cons_succ]
            clear c0 c1 hI
            go_wp2
            exact ⟨⟨j + 1, by omega, by go_num, hS.out⟩, by simp [intOf]; omega⟩
        · obtain rfl : j = i := by omega
          have j1 : ¬ (j : Int) < (j : Int) := by omega
          have hN0 : Hid (CnR G x s stp cl R.bb (crF s kb kw j) W 0 R wr) := ⟨hI.rd.congr rfl (fun m hm => rfl) (fun m hm => by show s.kc m = if m < 0 then 0 else s.kc m; rw [if_neg (Nat.not_lt_zero _)]) (fun m hm => rfl), rfl, hI.keeps⟩
          clear hI
          go_wp2
          go_loopw [10] (fun iv X => ∃ (i : Nat) (R1 : RM), i ≤ s.N ∧ iv = .int .i64 (i : Int) ∧ CnR G x s stp cl R.bb (crF s kb kw j) W i R1 X) (fun iv _ => 5000 - (intOf iv).toNat)
          case atStart => exact ⟨0, _, Nat.zero_le _, rfl, hN0.out⟩
          case round =>
            obtain ⟨i, R1, hi, rfl, hI⟩ := hrel
            clear hN0
            have e0 : wr.cell? ⟨x, 0, none⟩ = some (.slice (some ⟨R1.bb, 0, none⟩) s.N R1.cp) := hI.rd.c0
            by_cases hlt : i < s.N
            · have i1 : (i : Int) < (s.N : Int) := by omega
              have hS := hideit hI.step
              have hrr := hI.rd.row
              have eS := hrr.1 (i * 2 + 1) (by show i * 2 + 1 < s.N * 2; omega)
              have zS : wr.frozen? ⟨R1.bb, i * 2 + 1, none⟩ = false := hrr.2.1 (i * 2 + 1) (by show i * 2 + 1 < s.N * 2; omega)
              clear hrr hI
              go_upto_region 19 with (fail)
              refine wp_region_lit ?_
              refine wpList_run rfl (.int .i64 (i : Int)) (by simp [go_sem]) ?_
              simp only [Act.put, List.setIfInBounds_toArray, List.set_cons_zero, List.set_cons_succ]
              refine wpList_run rfl (.pointer (some ⟨x, 0, none⟩)) (by simp [go_sem]) ?_
              simp only [Act.put, List.setIfInBounds_toArray, List.set_cons_zero, List.set_cons_succ]
              refine wpList_run rfl (.pointer (some ⟨x, 0, none⟩)) (by simp [go_sem]) ?_
              simp only [Act.put, List.setIfInBounds_toArray, List.set_cons_zero, List.set_cons_succ]
              refine wpList_run rfl (.pointer (some ⟨x, 0, none⟩)) (by simp [go_sem]) ?_
              simp only [Act.put, List.setIfInBounds_toArray, List.set_cons_zero, List.set_cons_succ]
              refine wpList_run rfl (.slice (some ⟨R1.bb, 0, none⟩) s.N R1.cp) (by simp [go_sem, e0]) ?_
              simp only [Act.put, List.setIfInBounds_toArray, List.set_cons_zero, List.set_cons_succ]
              refine wpList_run rfl (.int .i64 (s.N : Int)) (by simp [go_sem]) ?_
              simp only [Act.put, List.setIfInBounds_toArray, List.set_cons_zero, List.set_cons_succ]
              refine wpList_run rfl (.bool true) (by simp [go_sem, i1]) ?_
              simp only [Act.put, List.setIfInBounds_toArray, List.set_cons_zero, List.set_cons_succ]
              go_upto_region 21 with (fail)
              refine wp_region_lit ?_
              refine wpList_run rfl (.pointer (some ⟨x, 0, none⟩)) (by simp [go_sem]) ?_
              simp only [Act.put, List.setIfInBounds_toArray, List.set_cons_zero, List.set_cons_succ]
              refine wpList_run rfl (.pointer (some ⟨x, 0, none⟩)) (by simp [go_sem]) ?_
              simp only [Act.put, List.setIfInBounds_toArray, List.set_cons_zero, List.set_cons_succ]
              refine wpList_run rfl (.pointer (some ⟨x, 0, none⟩)) (by simp [go_sem]) ?_
              simp only [Act.put, List.setIfInBounds_toArray, List.set_cons_zero, List.set_cons_succ]
              refine wpList_run rfl (.slice (some ⟨R1.bb, 0, none⟩) s.N R1.cp) (by simp [go_sem, e0]) ?_
              simp only [Act.put, List.setIfInBounds_toArray, List.set_cons_zero, List.set_cons_succ]
              refine wpList_run rfl (.int .i64 (i : Int)) (by simp [go_sem]) ?_
              simp only [Act.put, List.setIfInBounds_toArray, List.set_cons_zero, List.set_cons_succ]
              refine wpList_run rfl (.pointer (some ⟨R1.bb, i * 2, none⟩)) (by simp [go_sem, i1]) ?_
              simp only [Act.put, List.setIfInBounds_toArray, List.set_cons_zero, List.set_cons_succ]
              refine wpList_run rfl (.pointer (some ⟨R1.bb, i * 2 + 1, none⟩)) (by simp [go_sem]) ?_
              simp only [Act.put, List.setIfInBounds_toArray, List.set_cons_zero, List.set_cons_succ]
              refine wpList_st9 rfl (wr.setCell ⟨R1.bb, i * 2 + 1, none⟩ (.slice none 0 0)) (by simp [go_sem, eS, zS]) ?_
              simp only [Act.put]
              clear e0 eS zS
              go_wp2
              exact ⟨⟨i + 1, _, by omega, by go_num, hS.out⟩, by simp [intOf]; omega⟩
            · obtain rfl : i = s.N := by omega
              have hR : RdM G x (crR s kb kw j) stp cl R1 wr := hI.rd.congr rfl (fun m hm => rfl) (fun m hm => if_pos hm) (fun m hm => rfl)
              have e1 := hR.c1
              have z1 : wr.frozen? ⟨x, 1, none⟩ = false := hR.st.2.1 1 (by decide)
              obtain ⟨h2, k2⟩ := hR.set1 false
              rw [hI.isB] at k2
              have hF := hideit (And.intro h2 (hI.keeps.trans (F' := fun i => i = x ∨ i = R.bb) k2 fun i hi => .inl hi))
              have hbb := hideit hI.isB
              clear hR hI h2 k2
              go_upto_region 19 with (fail)
              refine wp_region_lit ?_
              refine wpList_run rfl (.int .i64 (s.N : Int)) (by simp [go_sem]) ?_
              simp only [Act.put, List.setIfInBounds_toArray, List.set_cons_zero, List.set_cons_succ]
              refine wpList_run rfl (.pointer (some ⟨x, 0, none⟩)) (by simp [go_sem]) ?_
              simp only [Act.put, List.setIfInBounds_toArray, List.set_cons_zero, List.set_cons_succ]
              refine wpList_run rfl (.pointer (some ⟨x, 0, none⟩)) (by simp [go_sem]) ?_
              simp only [Act.put, List.setIfInBounds_toArray, List.set_cons_zero, List.set_cons_succ]
              refine wpList_run rfl (.pointer (some ⟨x, 0, none⟩)) (by simp [go_sem]) ?_
              simp only [Act.put, List.setIfInBounds_toArray, List.set_cons_zero, List.set_cons_succ]
              refine wpList_run rfl (.slice (some ⟨R1.bb, 0, none⟩) s.N R1.cp) (by simp [go_sem, e0]) ?_
              simp only [Act.put, List.setIfInBounds_toArray, List.set_cons_zero, List.set_cons_succ]
              refine wpList_run rfl (.int .i64 (s.N : Int)) (by simp [go_sem]) ?_
              simp only [Act.put, List.setIfInBounds_toArray, List.set_cons_zero, List.set_cons_succ]
              refine wpList_run rfl (.bool false) (by simp [go_sem]) ?_
              simp only [Act.put, List.setIfInBounds_toArray, List.set_cons_zero, List.set_cons_succ]
              go_upto_region 22 with (fail)
              refine wp_region_lit ?_
              refine wpList_run rfl (.pointer (some ⟨x, 0, none⟩)) (by simp [go_sem]) ?_
              simp only [Act.put, List.setIfInBounds_toArray, List.set_cons_zero, List.set_cons_succ]
              refine wpList_run rfl (.pointer (some ⟨x, 0, none⟩)) (by simp [go_sem]) ?_
              simp only [Act.put, List.setIfInBounds_toArray, List.set_cons_zero, List.set_cons_succ]
              refine wpList_run rfl (.pointer (some ⟨x, 1, none⟩)) (by simp [go_sem]) ?_
              simp only [Act.put, List.setIfInBounds_toArray, List.set_cons_zero, List.set_cons_succ]
              refine wpList_st9 rfl (wr.setCell ⟨x, 1, none⟩ (.bool false)) (by simp [go_sem, e1, z1]) ?_
              simp only [Act.put]
              clear e0 e1 z1
              go_wp2
              go_ret
              exact ⟨rfl, R1, hbb.out, hF.out.1, hF.out.2⟩
end
end Go.Proofs.Ytfaeieaelfjlpaa
