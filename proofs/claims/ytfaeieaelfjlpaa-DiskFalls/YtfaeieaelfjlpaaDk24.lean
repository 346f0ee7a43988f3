/-
  The states of DiskFalls: before anything is written; before a crash; behind it.
-/
import Derived.Test.YtfaeieaelfjlpaaDk23
namespace Go.Proofs.Ytfaeieaelfjlpaa
open Go.RowKit Go.BigFrame Go.Maps
theorem cell_keep {F : Nat → Prop} {w X : World} (k : Keeps F w X) {a : Addr} {v : Value} (hn : ¬ F a.block) (h : w.cell? a = some v) : X.cell? a = some v := by
  have hl := World.block_lt_of_cell? w a h
  have hL : LieAt a 1 (fun _ => v) w := ⟨fun j hj => by
    obtain rfl : j = 0 := by omega
    rw [show a.add 0 = a from by unfold Addr.add; rw [if_pos rfl]]
    exact h, hl⟩
  have := (hL.keep k hn).1 0 (by decide)
  rw [show a.add 0 = a from by unfold Addr.add; rw [if_pos rfl]] at this
  exact this
section
variable {F F' : Nat → Prop} {p tb base k : Nat} {s s2 s3 : DSt} {C : Nat} {M M' : DM} {tv : Nat → Value} {cnt : Nat → Nat} {ts : Nat → Nat → Value} {w X Y Z : World} {fl : Bool}
structure Fl0 (w : World) (p tb : Nat) (F : Nat → Prop) (M : DM) (u : Value) (tv : Nat → Value) (k : Nat) (X : World) : Prop where
  dk : DkM F p (newS 8) 0 M X
  td : TdW F tb w.heap.size tv (fun _ => 1) (fun _ _ => u) k X
  ext : Ext w X
  fw : ∀ j, F j → w.heap.size ≤ j
theorem Fl0.start {u : Value} (hd : DkM F p (newS 8) 0 M X) (hE : Ext w X) (hF : ∀ j, F j → w.heap.size ≤ j) : Fl0 w p X.heap.size F M u (fun _ => undef) 0 (X.alloc (.cells (row 8 fun _ => .slice none 0 0).toArray 43)) := by
  have hX : Ext X (X.alloc (.cells (row 8 fun _ => .slice none 0 0).toArray 43)) := (Below.refl _ _).alloc (Nat.le_refl _) _
  refine ⟨hd.ext hX, ⟨(RowAt.new X 8 _ 43).congr fun j hj => by rw [if_neg (by omega)], fun n hn => by omega, fun n b hn => by omega, fun n n' b hn => by omega, fun e => ?_, Below.size hE, fun ⟨cur, fz, h⟩ => ?_⟩, Ext.trans hE hX, hF⟩
  · have := hd.lt _ e
    omega
  · rw [alloc_at] at h
    injection h with h
    injection h with _ h3
    exact absurd h3 (by decide)
theorem Fl0.put {u : Value} (h : Fl0 w p tb F M u tv k X) (hE : Ext X Y) (hk : k < 8) : Fl0 w p tb F M u (upN tv k (.slice (some ⟨Y.heap.size, 0, none⟩) 1 1)) (k + 1) ((Y.alloc (.cells #[u] 9)).setCell ⟨tb, k, none⟩ (.slice (some ⟨Y.heap.size, 0, none⟩) 1 1)) := by
  have hEY := Ext.trans h.ext hE
  have hd := h.dk.ext hE
  have ht := h.td.ext hE
  have h1 := ht.put hk u (Below.size hEY) hd.lt
  have hA : Ext Y (Y.alloc (.cells #[u] 9)) := (Below.refl _ _).alloc (Nat.le_refl _) _
  have kb : Keeps (fun i => i = tb) (Y.alloc (.cells #[u] 9)) ((Y.alloc (.cells #[u] 9)).setCell ⟨tb, k, none⟩ (.slice (some ⟨Y.heap.size, 0, none⟩) 1 1)) := Keeps.of_grown (but_setCell _ tb k _) fun b hb => by cases hb; exact .inl rfl
  refine ⟨(hd.ext hA).keep kb (fun i hi e => ht.tbF (e ▸ hi)) (fun i hi e => (ht.ext hA).notB (hi ▸ e)), h1.congr (fun n hn => ?_) (fun n j hn hj => ?_), Below.trans (Ext.trans hEY hA) (kb.below (Below.size (Ext.trans hEY hA)) fun i hi => hi ▸ ht.tbb), h.fw⟩
  · by_cases e : n = k
    · rw [e, upN_same]
    · rw [upN_other _ e]
  · by_cases e : n = k
    · rw [e, upN_same]
    · rw [upN_other _ e]
theorem Fl0.go (h : Fl0 w p tb F M (txt fun _ => 0#8) tv 8 X) : FlW w p tb F (newS 8) 0 M tv X := by
  refine ⟨h.dk, h.td.congr (fun n hn => rfl) (fun n j hn hj => ?_), h.ext, h.fw, rfl, rfl, rfl⟩
  obtain rfl : j = 0 := by omega
  rfl
/-- ready for the crash -/
structure FlB (w : World) (p tb : Nat) (F : Nat → Prop) (s s2 : DSt) (fl : Bool) (C : Nat) (M : DM) (tv : Nat → Value) (X : World) : Prop where
  dk : DkM F p s2 C M X
  td : TdW F tb w.heap.size tv (fun n => s.kc n + 1) (tsV s) 8 X
  ext : Ext w X
  fw : ∀ j, F j → w.heap.size ≤ j
  n8 : s2.N = 8
  fin : ∀ (M' : DM) (kb kw : Nat → Int) (k : Nat), okK s2 M' kb kw k → EndT s fl (crF s2 kb kw k)
  kc : ∀ n, n < 8 → s.kc n ≤ 200
theorem FlW.plain {i : Nat} (h : FlW w p tb F s i M tv X) (hi : i ≤ 200) : FlB w p tb F s s false i M tv X :=
  ⟨h.dk, h.td, h.ext, h.fw, h.n8, fun _ _ _ _ ho => end_crash h.s0 ho, fun n hn => Nat.le_trans (h.dk.kcC n (by rw [h.n8]; exact hn)) hi⟩
theorem FlW.flushed {i : Nat} (h : FlW w p tb F s i M tv X) (hi : i ≤ 200) (hd : DkM F p (flS s) i M' Y) (hk : Keeps F X Y) : FlB w p tb F s (flS s) true i M' tv Y :=
  ⟨hd, h.td.keep hk, Below.trans h.ext (hk.below (Below.size h.ext) h.fw), h.fw, h.n8, fun _ _ _ _ ho => end_flush h.s0 ho, fun n hn => Nat.le_trans (h.dk.kcC n (by rw [h.n8]; exact hn)) hi⟩
theorem FlB.ext' (h : FlB w p tb F s s2 fl C M tv X) (hE : Ext X Y) : FlB w p tb F s s2 fl C M tv Y := ⟨h.dk.ext hE, h.td.ext hE, Ext.trans h.ext hE, h.fw, h.n8, h.fin, h.kc⟩
/-- behind the crash -/
structure FlE (w : World) (p tb : Nat) (F : Nat → Prop) (s s3 : DSt) (fl : Bool) (C : Nat) (M : DM) (tv : Nat → Value) (X : World) : Prop where
  dk : DkM F p s3 C M X
  td : TdW F tb w.heap.size tv (fun n => s.kc n + 1) (tsV s) 8 X
  ext : Ext w X
  n8 : s3.N = 8
  pw : s3.pw = -1
  has : ∀ n, hasF s3 n = s3.S n
  fin : EndT s fl s3.S
  kc : ∀ n, n < 8 → s.kc n ≤ 200
theorem FlE.ext' (h : FlE w p tb F s s3 fl C M tv X) (hE : Ext X Y) : FlE w p tb F s s3 fl C M tv Y := ⟨h.dk.ext hE, h.td.ext hE, Ext.trans h.ext hE, h.n8, h.pw, h.has, h.fin, h.kc⟩
theorem FlB.crash {kb kw : Nat → Int} (h : FlB w p tb F s s2 fl C M tv X) (hd : DkM F p (crS s2 kb kw k) C M' Y) (hk : Keeps F X Y) (ho : okK s2 M kb kw k) : FlE w p tb F s (crS s2 kb kw k) fl C M' tv Y :=
  ⟨hd, h.td.keep hk, Below.trans h.ext (hk.below (Below.size h.ext) h.fw), h.n8, rfl, fun _ => if_pos rfl, h.fin _ _ _ _ ho, h.kc⟩
/-- one of the eight lists, as it lies -/
theorem FlE.list (h : FlE w p tb F s s3 fl C M tv X) {n : Nat} (hn : n < 8) : ∃ lb lc, X.cell? ⟨tb, n, none⟩ = some (.slice (some ⟨lb, 0, none⟩) (s.kc n + 1) lc) ∧ ∀ j, j < s.kc n + 1 → X.cell? ⟨lb, j, none⟩ = some (.string (stS s n j)) := by
  obtain ⟨lb, lc, hv, _, _, _, hr⟩ := (h.td.own n hn).lies (Nat.succ_pos _)
  have e : X.cell? ⟨tb, n, none⟩ = some (if n < 8 then tv n else .slice none 0 0) := h.td.row.1 n hn
  rw [if_pos hn, hv] at e
  exact ⟨lb, lc, e, fun j hj => hr.1 j hj⟩
theorem FlE.txt_eq (h : FlE w p tb F s s3 fl C M tv X) {n : Nat} (hn : n < 8) : ∃ j, j ≤ s.kc n ∧ stS s n j = bstr 512 fun t => ((s3.S n t).toNat : Int) := by
  obtain ⟨j, hj, e⟩ := (h.fin n hn).1
  exact ⟨j, hj, by unfold stS; rw [e]⟩
theorem FlE.txt_last (h : FlE w p tb F s s3 true C M tv X) {n : Nat} (hn : n < 8) : stS s n (s.kc n) = bstr 512 fun t => ((s3.S n t).toNat : Int) := by
  have e := (h.fin n hn).2 rfl
  unfold stS
  rw [e]
end
end Go.Proofs.Ytfaeieaelfjlpaa
