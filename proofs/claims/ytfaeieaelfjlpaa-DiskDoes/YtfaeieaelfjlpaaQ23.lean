/-
  What is told of the writes, beside the disk; what is left behind a crash. The states of DiskFalls: before anything is written; before a crash; behind it.
-/
import Derived.Test.YtfaeieaelfjlpaaQ22
import Derived.SizedLaws
namespace Go.Proofs.Ytfaeieaelfjlpaa
open Go.ChangeShapes Go.WideShapes Go.ChangeAt Go.RowKit Go.BigFrame Go.Maps
theorem bytes65 : Try.prog.bytesOf 65 = 16 := by kernel_rfl
theorem has_ltK {P : Program} {w : World} {r : Reach} {base n : Nat} {a : Addr} {e : TypeId} (h : w.has P r base a e n) : a.block < w.heap.size := by
  obtain ⟨_, _, row, cells, hs, _⟩ := h
  rcases Nat.lt_or_ge a.block w.heap.size with h1 | h1
  · exact h1
  · exfalso
    have h2 : w.heap[a.block]? = none := Array.getElem?_eq_none h1
    unfold World.shape? at hs
    rw [h2] at hs
    cases hs
set_option maxRecDepth 100000 in
theorem keparg {H : Type} {enc : TypeId × Value → H} {W : World} {r : Reach} {b0 base : Nat} {spare : Nat → Bool} {held : Bool} {v : Value} {d : DataW H} {p : List MemPlace} {ts : List TypeId} {ds : List (DataW H)}
    (hv : Value.okWide Try.prog W r b0 32 v) (h : DataW.Trod enc Try.prog W base spare held 32 v d p) (hsz : (DataW.weightsEach Try.prog ts ds).all (· ≤ reachBytes) = true) (j : Nat) (ht : ts[j]? = some 32) (hd : ds[j]? = some d) : ∃ k kb kw, KL v k kb kw W ∧ k ≤ 140737488355328 ∧ ∀ i, i < k → okI (kb i) := by
  obtain ⟨a, len, cap, rfl⟩ := okWide_slice Try.underlying32 hv
  obtain ⟨fuel, hf⟩ := h
  obtain ⟨q, k, kb, kw, hcs, hKP, hkm, hok, hx⟩ := open_keep hf
  simp [Value.cells] at hcs
  subst hcs
  refine ⟨k, kb, kw, ?_, ?_, fun i hi => (hok i hi).1⟩
  · rcases hKP with ⟨e1, e2⟩ | ⟨a', cap', e1, e2, e3⟩
    · exact .inl ⟨e1, e2⟩
    · injection e1 with e4 e5 e6
      subst e4
      subst e5
      subst e6
      simp only [Value.okWide, Try.underlying32, Cell.okWide, Cell.ok] at hv
      exact .inr ⟨a', cap, rfl, e2, e3, has_ltK hv.2.2⟩
  · rcases hx with ⟨_, e⟩ | ⟨e, s, hx, he⟩
    · omega
    · have hx' : d = .slice e s := hx
      subst hx'
      have h1 := sized_slice hsz ht hd Try.underlying32
      rw [bytes65] at h1
      unfold reachBytes at h1
      omega
theorem zero43 (w : World) : (zeroValue 43).run Try.prog w = .ok (.agg (row 8 fun _ => .slice none 0 0).toArray) w := by kernel_rfl
/-- append of a text to a list of texts, as it runs -/
theorem run_grow42 {base : Nat} {v : Value} {n : Nat} {g : Nat → Value} {w : World} (hO : OwnB base 9 v n g w) (b : Nat) (u : Value) (hu : w.cell? ⟨b, 0, none⟩ = some u) (h1 : u.oneCell' = true) (hn : n ≤ 4398046511104) (hb : base ≤ w.heap.size) (ty : TypeId) :
    ∃ v' w', (Builtin.append_ #[42, 42] ty #[v, .slice (some ⟨b, 0, none⟩) 1 1]).run Try.prog w = .ok v' w' ∧ OwnB base 9 v' (n + 1) (fun j => if j = n then u else g j) w' ∧ w.grownBy w' v.ownBlock ∧ (v'.ownBlock = v.ownBlock ∨ v'.ownBlock = some w.heap.size) := by
  obtain ⟨i, z, e1, e2, e3, e4, e5⟩ := elem42.info
  obtain ⟨v', w', a1, a2, a3, _, a5⟩ := run_append_own_at (P := Try.prog) w base 42 ty 9 i z 1 16 elem42.slice e1 e2 e3 e4 e5 (by decide) v n (row n g) hO ⟨b, 0, none⟩ 1 1 [u] rfl (fun j x hj => by
    cases j with
    | zero => simp at hj; subst hj; exact hu
    | succ j => simp at hj) (fun x hx => by simp at hx; subst hx; exact h1) (by unfold maxLen; omega) (by omega) hb
  refine ⟨v', w', a1, ?_, a3, a5⟩
  unfold OwnB
  rw [show row (n + 1) (fun j => if j = n then u else g j) = row n g ++ [u] from ?_]
  · exact a2
  · rw [← row_append n 1 g (fun _ => u) _ (fun j hj => by rw [if_neg (by omega)]) (fun j hj => by rw [if_pos (by omega)])]
    rfl
/-- the texts told -/
def stS (s : DSt) (n j : Nat) : ByteArray := bstr 512 fun t => ((tsF s n j t).toNat : Int)
theorem tsV_st (s : DSt) (n j : Nat) : tsV s n j = .string (stS s n j) := rfl
section
variable {F F' : Nat → Prop} {p tb base k : Nat} {s : DSt} {C : Nat} {M M' : DM} {tv : Nat → Value} {cnt : Nat → Nat} {ts : Nat → Nat → Value} {w X Y Z : World}
/-- told, beside a write of the disk -/
theorem TdW.aside (h : TdW F tb base tv cnt ts k X) (hE : Ext X Y) (hk : Keeps F Y Z) (hF : ∀ j, F' j → F j ∨ Y.heap.size ≤ j) : TdW F' tb base tv cnt ts k Z := by
  have h1 := (h.ext hE).reF (F' := fun j => F j ∨ Y.heap.size ≤ j) fun i hi => hi
  have h2 := h1.keep (hk.weak fun i hi => .inl hi)
  refine { h2 with ap := fun n b hn hb => ⟨(h2.ap n b hn hb).1, fun e => (h2.ap n b hn hb).2 (hF b e)⟩, tbF := fun e => h2.tbF (hF tb e) }
/-- the disk, beside a list that is told more -/
theorem DkM.beside {n : Nat} {v : Value} (h : DkM F p s C M X) (ht : TdW F tb base tv cnt ts 8 X) (hn : n < 8) (hg : X.grownBy Y (tv n).ownBlock) : DkM F p s C M (Y.setCell ⟨tb, n, none⟩ v) := by
  have htl := ht.row.2.2
  have k1 : Keeps (fun i => (tv n).ownBlock = some i) X Y := Keeps.of_grown hg fun b hb => .inl hb
  have h1 := h.keep k1 (fun i hi e => (ht.ap n i hn e).2 hi) (fun i hi => own9_notB (ht.own n hn) hi)
  refine h1.keep (G := fun i => i = tb) (Keeps.of_grown (but_setCell Y tb n v) fun b hb => by cases hb; exact .inl rfl) (fun i hi e => ht.tbF (e ▸ hi)) fun i hi e => ?_
  subst hi
  exact ht.notB (e.back k1 htl fun e2 => (ht.ap n _ hn e2).1 rfl)
structure FlW (w : World) (p tb : Nat) (F : Nat → Prop) (s : DSt) (i : Nat) (M : DM) (tv : Nat → Value) (X : World) : Prop where
  dk : DkM F p s i M X
  td : TdW F tb w.heap.size tv (fun n => s.kc n + 1) (tsV s) 8 X
  ext : Ext w X
  fw : ∀ j, F j → w.heap.size ≤ j
  n8 : s.N = 8
  s0 : s.S = fun _ _ => 0#8
  pw : s.pw = -1
/-- a write of block n, not yet told -/
structure FlT (w : World) (p tb : Nat) (F : Nat → Prop) (s : DSt) (n : Nat) (f : Nat → BitVec 8) (i : Nat) (M : DM) (tv : Nat → Value) (X : World) : Prop where
  dk : DkM F p (wrS s n f) i M X
  td : TdW F tb w.heap.size tv (fun n => s.kc n + 1) (tsV s) 8 X
  ext : Ext w X
  fw : ∀ j, F j → w.heap.size ≤ j
  n8 : s.N = 8
  s0 : s.S = fun _ _ => 0#8
  pw : s.pw = -1
  hn : n < 8
theorem FlW.none {i : Nat} {x : Int} {f : Nat → BitVec 8} (h : FlW w p tb F s i M tv X) (hE : Ext X Y) (hno : inN s.N x = false) (hd : DkM F' p (wrX s x f) (i + 1) M' Z) (hk : Keeps F Y Z) (hF : ∀ j, F' j → F j ∨ Y.heap.size ≤ j) : FlW w p tb F' s (i + 1) M' tv Z := by
  have hEY := Ext.trans h.ext hE
  rw [show wrX s x f = s by unfold wrX; rw [hno]; rfl] at hd
  refine ⟨hd, h.td.aside hE hk hF, Below.trans hEY (hk.below (Below.size hEY) h.fw), fun j hj => ?_, h.n8, h.s0, h.pw⟩
  rcases hF j hj with e | e
  · exact h.fw j e
  · exact Nat.le_trans (Below.size hEY) e
theorem FlW.wrote {i n : Nat} {f : Nat → BitVec 8} (h : FlW w p tb F s i M tv X) (hE : Ext X Y) (hn : n < 8) (hd : DkM F' p (wrX s (n : Int) f) (i + 1) M' Z) (hk : Keeps F Y Z) (hF : ∀ j, F' j → F j ∨ Y.heap.size ≤ j) : FlT w p tb F' s n f (i + 1) M' tv Z := by
  have hEY := Ext.trans h.ext hE
  rw [show wrX s (n : Int) f = wrS s n f by unfold wrX; rw [inN_true (by rw [h.n8]; exact hn)]; rfl] at hd
  refine ⟨hd, h.td.aside hE hk hF, Below.trans hEY (hk.below (Below.size hEY) h.fw), fun j hj => ?_, h.n8, h.s0, h.pw, hn⟩
  rcases hF j hj with e | e
  · exact h.fw j e
  · exact Nat.le_trans (Below.size hEY) e
theorem FlT.ext' {i n : Nat} {f : Nat → BitVec 8} (h : FlT w p tb F s n f i M tv X) (hE : Ext X Y) : FlT w p tb F s n f i M tv Y := ⟨h.dk.ext hE, h.td.ext hE, Ext.trans h.ext hE, h.fw, h.n8, h.s0, h.pw, h.hn⟩
theorem FlT.told {i n : Nat} {f : Nat → BitVec 8} {v : Value} (h : FlT w p tb F s n f i M tv X) (hg : X.grownBy Y (tv n).ownBlock) (hO : OwnB w.heap.size 9 v (s.kc n + 1 + 1) (fun j => if j = s.kc n + 1 then txt f else tsV s n j) Y) (hloc : v.ownBlock = (tv n).ownBlock ∨ v.ownBlock = some X.heap.size) :
    FlW w p tb F (wrS s n f) i M (upN tv n v) (Y.setCell ⟨tb, n, none⟩ v) := by
  have ht := h.td.grow h.hn hg hO hloc h.dk.lt rfl
  have k1 : Keeps (fun i => (tv n).ownBlock = some i ∨ i = tb) X (Y.setCell ⟨tb, n, none⟩ v) := by
    have a1 : Keeps (fun i => (tv n).ownBlock = some i ∨ i = tb) X Y := Keeps.of_grown hg fun b hb => .inl (.inl hb)
    exact a1.trans (F' := fun i => i = tb) (Keeps.of_grown (but_setCell Y tb n v) fun b hb => by cases hb; exact .inl rfl) fun i hi => .inl (.inr hi)
  refine ⟨h.dk.beside h.td h.hn hg, ?_, Below.trans h.ext (k1.below (Below.size h.ext) fun i hi => ?_), h.fw, h.n8, h.s0, ?_⟩
  · refine ht.congr (fun m hm => ?_) fun m j hm hj => ?_
    · by_cases e : m = n
      · subst e
        rw [upN_same]
        show _ = upN s.kc m (s.kc m + 1) m + 1
        rw [upN_same]
      · rw [upN_other _ e]
        show _ = upN s.kc n (s.kc n + 1) m + 1
        rw [upN_other _ e]
    · by_cases e : m = n
      · subst e
        rw [upN_same] at hj ⊢
        unfold tsV tsF
        show (if j = s.kc m + 1 then txt f else txt (if j = 0 then _ else s.uc m (j - 1))) = txt (if j = 0 then _ else upN s.uc m (upN (s.uc m) (s.kc m) f) m (j - 1))
        rw [upN_same]
        by_cases e1 : j = s.kc m + 1
        · rw [if_pos e1, if_neg (by omega), show j - 1 = s.kc m by omega, upN_same]
        · rw [if_neg e1]
          by_cases e2 : j = 0
          · rw [if_pos e2, if_pos e2]
          · rw [if_neg e2, if_neg e2, upN_other _ (by omega)]
      · rw [upN_other _ e]
        unfold tsV tsF
        show txt (if j = 0 then _ else s.uc m (j - 1)) = txt (if j = 0 then _ else upN s.uc n (upN (s.uc n) (s.kc n) f) m (j - 1))
        rw [upN_other _ e]
  · rcases hi with e | rfl
    · exact ((h.td.own n h.hn).lt _ e).1
    · exact h.td.tbb
  · show spE s.pw = -1
    rw [h.pw]
    rfl
end
/-- what is left: a text of those told; behind a flush, the last one -/
def EndT (s : DSt) (fl : Bool) (T : Nat → Nat → BitVec 8) : Prop := ∀ n, n < 8 → (∃ j, j ≤ s.kc n ∧ T n = tsF s n j) ∧ (fl = true → T n = tsF s n (s.kc n))
theorem end_crash {s : DSt} {M : DM} {kb kw : Nat → Int} {k : Nat} (h0 : s.S = fun _ _ => 0#8) (hok : okK s M kb kw k) : EndT s false (crF s kb kw k) := fun n hn => by
  refine ⟨?_, fun e => by cases e⟩
  cases hm : mK M kb kw k (n : Int) with
  | none =>
    refine ⟨0, Nat.zero_le _, ?_⟩
    rw [crF_none (M := M) k n (fun j hj => (hok j hj).2.1) hm, h0]
    rfl
  | some v =>
    obtain ⟨q, _, hq, e⟩ := crF_some k n v hok hm
    refine ⟨q, hq, ?_⟩
    rw [e, h0]
    unfold tsF
    by_cases e2 : q = 0
    · rw [if_pos e2, if_neg (by omega)]
    · rw [if_neg e2, if_pos (by omega)]
theorem has_ts {s : DSt} (h0 : s.S = fun _ _ => 0#8) (n : Nat) : hasF s n = tsF s n (s.kc n) := by
  unfold hasF tsF
  rw [h0]
theorem end_flush {s : DSt} {M : DM} {kb kw : Nat → Int} {k : Nat} (h0 : s.S = fun _ _ => 0#8) (hok : okK (flS s) M kb kw k) : EndT s true (crF (flS s) kb kw k) := fun n hn => by
  have key : crF (flS s) kb kw k n = tsF s n (s.kc n) := by
    rw [← has_ts h0]
    cases hm : mK M kb kw k (n : Int) with
    | none => exact crF_none (M := M) k n (fun j hj => (hok j hj).2.1) hm
    | some v =>
      obtain ⟨q, _, hq, e⟩ := crF_some k n v hok hm
      have hq0 : q ≤ 0 := hq
      rw [e, if_neg (by omega)]
      rfl
  exact ⟨⟨s.kc n, Nat.le_refl _, key⟩, fun _ => key⟩
end Go.Proofs.Ytfaeieaelfjlpaa
namespace Go.Proofs.Ytfaeieaelfjlpaa
open Go.RowKit Go.BigFrame Go.Maps
theorem cell_keep {F : Nat → Prop} {w X : World} (k : Keeps F w X) {a : Addr} {v : Value} (hn : ¬ F a.block) (h : w.cell? a = some v) : X.cell? a = some v := by
  have hl := World.block_lt_of_cell? w a h
  have hL : LieAt a 1 (fun _ => v) w := ⟨fun j hj => by
    obtain rfl : j = 0 := by omega
    rw [show a.add 0 = a from by unfold Addr.add; rw [if_pos rfl]]
    exact h, hl⟩
  have := (hL.keep k hn).1 0 (by decide)
  rw [show a.add 0 = a from by unfold Addr.add; rw [if_pos rfl]] at this
  exact this
section
variable {F F' : Nat → Prop} {p tb base k : Nat} {s s2 s3 : DSt} {C : Nat} {M M' : DM} {tv : Nat → Value} {cnt : Nat → Nat} {ts : Nat → Nat → Value} {w X Y Z : World} {fl : Bool}
structure Fl0 (w : World) (p tb : Nat) (F : Nat → Prop) (M : DM) (u : Value) (tv : Nat → Value) (k : Nat) (X : World) : Prop where
  dk : DkM F p (newS 8) 0 M X
  td : TdW F tb w.heap.size tv (fun _ => 1) (fun _ _ => u) k X
  ext : Ext w X
  fw : ∀ j, F j → w.heap.size ≤ j
theorem Fl0.start {u : Value} (hd : DkM F p (newS 8) 0 M X) (hE : Ext w X) (hF : ∀ j, F j → w.heap.size ≤ j) : Fl0 w p X.heap.size F M u (fun _ => undef) 0 (X.alloc (.cells (row 8 fun _ => .slice none 0 0).toArray 43)) := by
  have hX : Ext X (X.alloc (.cells (row 8 fun _ => .slice none 0 0).toArray 43)) := (Below.refl _ _).alloc (Nat.le_refl _) _
  refine ⟨hd.ext hX, ⟨(RowAt.new X 8 _ 43).congr fun j hj => by rw [if_neg (by omega)], fun n hn => by omega, fun n b hn => by omega, fun n n' b hn => by omega, fun e => ?_, Below.size hE, fun ⟨cur, fz, h⟩ => ?_⟩, Ext.trans hE hX, hF⟩
  · have := hd.lt _ e
    omega
  · rw [alloc_at] at h
    injection h with h
    injection h with _ h3
    exact absurd h3 (by decide)
theorem Fl0.put {u : Value} (h : Fl0 w p tb F M u tv k X) (hE : Ext X Y) (hk : k < 8) : Fl0 w p tb F M u (upN tv k (.slice (some ⟨Y.heap.size, 0, none⟩) 1 1)) (k + 1) ((Y.alloc (.cells #[u] 9)).setCell ⟨tb, k, none⟩ (.slice (some ⟨Y.heap.size, 0, none⟩) 1 1)) := by
  have hEY := Ext.trans h.ext hE
  have hd := h.dk.ext hE
  have ht := h.td.ext hE
  have h1 := ht.put hk u (Below.size hEY) hd.lt
  have hA : Ext Y (Y.alloc (.cells #[u] 9)) := (Below.refl _ _).alloc (Nat.le_refl _) _
  have kb : Keeps (fun i => i = tb) (Y.alloc (.cells #[u] 9)) ((Y.alloc (.cells #[u] 9)).setCell ⟨tb, k, none⟩ (.slice (some ⟨Y.heap.size, 0, none⟩) 1 1)) := Keeps.of_grown (but_setCell _ tb k _) fun b hb => by cases hb; exact .inl rfl
  refine ⟨(hd.ext hA).keep kb (fun i hi e => ht.tbF (e ▸ hi)) (fun i hi e => (ht.ext hA).notB (hi ▸ e)), h1.congr (fun n hn => ?_) (fun n j hn hj => ?_), Below.trans (Ext.trans hEY hA) (kb.below (Below.size (Ext.trans hEY hA)) fun i hi => hi ▸ ht.tbb), h.fw⟩
  · by_cases e : n = k
    · rw [e, upN_same]
    · rw [upN_other _ e]
  · by_cases e : n = k
    · rw [e, upN_same]
    · rw [upN_other _ e]
theorem Fl0.go (h : Fl0 w p tb F M (txt fun _ => 0#8) tv 8 X) : FlW w p tb F (newS 8) 0 M tv X := by
  refine ⟨h.dk, h.td.congr (fun n hn => rfl) (fun n j hn hj => ?_), h.ext, h.fw, rfl, rfl, rfl⟩
  obtain rfl : j = 0 := by omega
  rfl
/-- ready for the crash -/
structure FlB (w : World) (p tb : Nat) (F : Nat → Prop) (s s2 : DSt) (fl : Bool) (C : Nat) (M : DM) (tv : Nat → Value) (X : World) : Prop where
  dk : DkM F p s2 C M X
  td : TdW F tb w.heap.size tv (fun n => s.kc n + 1) (tsV s) 8 X
  ext : Ext w X
  fw : ∀ j, F j → w.heap.size ≤ j
  n8 : s2.N = 8
  fin : ∀ (M' : DM) (kb kw : Nat → Int) (k : Nat), okK s2 M' kb kw k → EndT s fl (crF s2 kb kw k)
  kc : ∀ n, n < 8 → s.kc n ≤ 200
theorem FlW.plain {i : Nat} (h : FlW w p tb F s i M tv X) (hi : i ≤ 200) : FlB w p tb F s s false i M tv X :=
  ⟨h.dk, h.td, h.ext, h.fw, h.n8, fun _ _ _ _ ho => end_crash h.s0 ho, fun n hn => Nat.le_trans (h.dk.kcC n (by rw [h.n8]; exact hn)) hi⟩
theorem FlW.flushed {i : Nat} (h : FlW w p tb F s i M tv X) (hi : i ≤ 200) (hd : DkM F p (flS s) i M' Y) (hk : Keeps F X Y) : FlB w p tb F s (flS s) true i M' tv Y :=
  ⟨hd, h.td.keep hk, Below.trans h.ext (hk.below (Below.size h.ext) h.fw), h.fw, h.n8, fun _ _ _ _ ho => end_flush h.s0 ho, fun n hn => Nat.le_trans (h.dk.kcC n (by rw [h.n8]; exact hn)) hi⟩
theorem FlB.ext' (h : FlB w p tb F s s2 fl C M tv X) (hE : Ext X Y) : FlB w p tb F s s2 fl C M tv Y := ⟨h.dk.ext hE, h.td.ext hE, Ext.trans h.ext hE, h.fw, h.n8, h.fin, h.kc⟩
/-- behind the crash -/
structure FlE (w : World) (p tb : Nat) (F : Nat → Prop) (s s3 : DSt) (fl : Bool) (C : Nat) (M : DM) (tv : Nat → Value) (X : World) : Prop where
  dk : DkM F p s3 C M X
  td : TdW F tb w.heap.size tv (fun n => s.kc n + 1) (tsV s) 8 X
  ext : Ext w X
  n8 : s3.N = 8
  pw : s3.pw = -1
  has : ∀ n, hasF s3 n = s3.S n
  fin : EndT s fl s3.S
  kc : ∀ n, n < 8 → s.kc n ≤ 200
theorem FlE.ext' (h : FlE w p tb F s s3 fl C M tv X) (hE : Ext X Y) : FlE w p tb F s s3 fl C M tv Y := ⟨h.dk.ext hE, h.td.ext hE, Ext.trans h.ext hE, h.n8, h.pw, h.has, h.fin, h.kc⟩
theorem FlB.crash {kb kw : Nat → Int} (h : FlB w p tb F s s2 fl C M tv X) (hd : DkM F p (crS s2 kb kw k) C M' Y) (hk : Keeps F X Y) (ho : okK s2 M kb kw k) : FlE w p tb F s (crS s2 kb kw k) fl C M' tv Y :=
  ⟨hd, h.td.keep hk, Below.trans h.ext (hk.below (Below.size h.ext) h.fw), h.n8, rfl, fun _ => if_pos rfl, h.fin _ _ _ _ ho, h.kc⟩
/-- one of the eight lists, as it lies -/
theorem FlE.list (h : FlE w p tb F s s3 fl C M tv X) {n : Nat} (hn : n < 8) : ∃ lb lc, X.cell? ⟨tb, n, none⟩ = some (.slice (some ⟨lb, 0, none⟩) (s.kc n + 1) lc) ∧ ∀ j, j < s.kc n + 1 → X.cell? ⟨lb, j, none⟩ = some (.string (stS s n j)) := by
  obtain ⟨lb, lc, hv, _, _, _, hr⟩ := (h.td.own n hn).lies (Nat.succ_pos _)
  have e : X.cell? ⟨tb, n, none⟩ = some (if n < 8 then tv n else .slice none 0 0) := h.td.row.1 n hn
  rw [if_pos hn, hv] at e
  exact ⟨lb, lc, e, fun j hj => hr.1 j hj⟩
theorem FlE.txt_eq (h : FlE w p tb F s s3 fl C M tv X) {n : Nat} (hn : n < 8) : ∃ j, j ≤ s.kc n ∧ stS s n j = bstr 512 fun t => ((s3.S n t).toNat : Int) := by
  obtain ⟨j, hj, e⟩ := (h.fin n hn).1
  exact ⟨j, hj, by unfold stS; rw [e]⟩
theorem FlE.txt_last (h : FlE w p tb F s s3 true C M tv X) {n : Nat} (hn : n < 8) : stS s n (s.kc n) = bstr 512 fun t => ((s3.S n t).toNat : Int) := by
  have e := (h.fin n hn).2 rfl
  unfold stS
  rw [e]
end
end Go.Proofs.Ytfaeieaelfjlpaa
