/-
  A model in memory; what stays when others are written.
-/
import Derived.Test.YtcipkfalnjgghaaCln
import Derived.Test.YtcipkfalnjgghaaMapV
import Derived.Test.YtcipkfalnjgghaaLadZ
import Derived.Test.YtcipkfalnjgghaaOwnK
import Derived.Test.YtcipkfalnjgghaaPl1
import Derived.Test.YtcipkfalnjgghaaSx
import Derived.Maps.AppendAt
namespace Go.Proofs.Ytcipkfalnjgghaa
open Go.RowKit Go.BigFrame Go.Maps
set_option linter.unusedVariables false
/-- a block of bytes -/
def IsB (i : Nat) (W : World) : Prop := ∃ cur fz, W.heap[i]? = some (.cells cur 5 fz)
/-- 512 bytes that lie from the head of such a block on -/
def CB (v : Value) (f : Nat → BitVec 8) (W : World) : Prop := ∃ b cap, v = .slice (some ⟨b, 0, none⟩) 512 cap ∧ 512 ≤ cap ∧ LieAt ⟨b, 0, none⟩ 512 (yv f) W ∧ IsB b W
/-- all that lay in w lies in w' as it was, but for the blocks of F -/
structure Keeps (F : Nat → Prop) (w w' : World) : Prop where
  os : w'.os = w.os
  tape : w'.tape = w.tape
  output : w'.output = w.output
  size : w.heap.size ≤ w'.heap.size
  block : ∀ i, i < w.heap.size → ¬ F i → w'.heap[i]? = w.heap[i]?
  bk : ∀ i, i < w.heap.size → IsB i w' → IsB i w
theorem Keeps.refl (F : Nat → Prop) (w : World) : Keeps F w w := ⟨rfl, rfl, rfl, Nat.le_refl _, fun _ _ _ => rfl, fun _ _ h => h⟩
theorem Keeps.of_ext {F : Nat → Prop} {w w' : World} (h : Ext w w') : Keeps F w w' := ⟨Below.os h, Below.tape h, Below.output h, Below.size h, fun i hi _ => Below.block h i hi, fun i hi ⟨cur, fz, e⟩ => ⟨cur, fz, (Below.block h i hi).symm.trans e⟩⟩
theorem Keeps.of_grown {F : Nat → Prop} {w w' : World} {b : Nat} (h : w.grownBy w' (some b)) (hr : F b ∨ w.heap.size ≤ b) (hb : IsB b w' → IsB b w) : Keeps F w w' :=
  ⟨h.os, h.tape, h.output, h.size, fun i hi hn => h.block i hi fun e => by
    injection e with e
    subst e
    rcases hr with h1 | h1
    · exact hn h1
    · omega, fun i hi hB => by
    by_cases e : i = b
    · subst e; exact hb hB
    · obtain ⟨cur, fz, hB⟩ := hB
      exact ⟨cur, fz, (h.block i hi (fun q => e (Option.some.inj q))).symm.trans hB⟩⟩
theorem Keeps.trans {F F' : Nat → Prop} {a b c : World} (h : Keeps F a b) (k : Keeps F' b c) (hF : ∀ i, F' i → F i ∨ a.heap.size ≤ i) : Keeps F a c :=
  ⟨k.os.trans h.os, k.tape.trans h.tape, k.output.trans h.output, Nat.le_trans h.size k.size, fun i hi hn => (k.block i (Nat.lt_of_lt_of_le hi h.size) fun e => by
    rcases hF i e with h1 | h1
    · exact hn h1
    · omega).trans (h.block i hi hn), fun i hi e => h.bk i hi (k.bk i (Nat.lt_of_lt_of_le hi h.size) e)⟩
theorem Keeps.ext {F : Nat → Prop} {a b c : World} (h : Keeps F a b) (k : Ext b c) : Keeps F a c := h.trans (F' := F) (Keeps.of_ext k) fun _ hi => .inl hi
theorem Keeps.below {F : Nat → Prop} {B : Nat} {a b : World} (h : Keeps F a b) (hB : B ≤ a.heap.size) (hF : ∀ i, F i → B ≤ i) : Below B a b :=
  ⟨h.os, h.tape, h.output, h.size, fun i hi => h.block i (by omega) fun e => by have := hF i e; omega⟩
theorem Keeps.none {F : Nat → Prop} {a b : World} (h : Keeps F a b) (hF : ∀ i, F i → a.heap.size ≤ i) : Ext a b := h.below (Nat.le_refl _) hF
theorem IsB.lt {i : Nat} {W : World} (h : IsB i W) : i < W.heap.size := by
  obtain ⟨cur, fz, h⟩ := h
  exact (Array.getElem?_eq_some_iff.1 h).1
theorem IsB.keep {F : Nat → Prop} {i : Nat} {W Y : World} (h : IsB i W) (k : Keeps F W Y) (hn : ¬ F i) : IsB i Y := by
  have hl := h.lt
  obtain ⟨cur, fz, h⟩ := h
  exact ⟨cur, fz, (k.block i hl hn).trans h⟩
theorem IsB.back {F : Nat → Prop} {i : Nat} {W Y : World} (h : IsB i Y) (k : Keeps F W Y) (hl : i < W.heap.size) (hn : ¬ F i) : IsB i W := by
  obtain ⟨cur, fz, h⟩ := h
  exact ⟨cur, fz, (k.block i hl hn).symm.trans h⟩
theorem RowAt.keep {F : Nat → Prop} {b n : Nat} {g : Nat → Value} {W Y : World} (h : RowAt b n g W) (k : Keeps F W Y) (hn : ¬ F b) : RowAt b n g Y :=
  ⟨fun j hj => (World.cell?_of_block (a := ⟨b, j, none⟩) (k.block b h.2.2 hn)).trans (h.1 j hj), fun j hj => (World.frozen?_of_block (a := ⟨b, j, none⟩) (k.block b h.2.2 hn)).trans (h.2.1 j hj), Nat.lt_of_lt_of_le h.2.2 k.size⟩
theorem LieAt.keep {F : Nat → Prop} {a : Addr} {n : Nat} {g : Nat → Value} {W Y : World} (h : LieAt a n g W) (k : Keeps F W Y) (hn : ¬ F a.block) : LieAt a n g Y :=
  ⟨fun j hj => (World.cell?_of_block (a := a.add j) (by rw [add_block]; exact k.block _ h.2 hn)).trans (h.1 j hj), Nat.lt_of_lt_of_le h.2 k.size⟩
theorem CB.keep {F : Nat → Prop} {v : Value} {f : Nat → BitVec 8} {W Y : World} (h : CB v f W) (k : Keeps F W Y) (hF : ∀ i, F i → ¬ IsB i W) : CB v f Y := by
  obtain ⟨b, cap, h1, h2, h3, h4⟩ := h
  have hn : ¬ F b := fun e => hF b e h4
  exact ⟨b, cap, h1, h2, h3.keep k hn, h4.keep k hn⟩
theorem CB.ext {v : Value} {f : Nat → BitVec 8} {W Y : World} (h : CB v f W) (k : Ext W Y) : CB v f Y := h.keep (F := fun _ => False) (Keeps.of_ext k) fun _ e => e.elim
theorem CB.bv {v : Value} {f : Nat → BitVec 8} {W : World} (h : CB v f W) : BV v 512 f W := by
  obtain ⟨b, cap, h1, h2, h3, _⟩ := h
  exact .inr ⟨_, cap, h1, h2, h3⟩
theorem CB.congr {v : Value} {f g : Nat → BitVec 8} {W : World} (h : CB v f W) (e : ∀ j, j < 512 → f j = g j) : CB v g W := by
  obtain ⟨b, cap, h1, h2, h3, h4⟩ := h
  exact ⟨b, cap, h1, h2, ⟨fun j hj => by rw [h3.1 j hj]; unfold yv; rw [e j hj], h3.2⟩, h4⟩
theorem OwnB.cb {base : Nat} {v : Value} {f : Nat → BitVec 8} {W : World} (h : OwnB base 5 v 512 (yv f) W) : CB v f W := by
  have h0 := h
  rcases h.2 with ⟨_, h2⟩ | ⟨b, cap, cur, rfl, hb, hg, hc, hm, _, ht⟩
  · omega
  · refine ⟨b, cap, rfl, hc, ⟨fun j hj => ?_, (Array.getElem?_eq_some_iff.1 hg).1⟩, cur, (0, 0), hg⟩
    exact World.ownsRow.cells h0 (g := b) rfl j (yv f j) (row_get 512 (yv f) j hj)
theorem OwnB.keep {F : Nat → Prop} {base : Nat} {e : TypeId} {v : Value} {n : Nat} {g : Nat → Value} {W Y : World} (h : OwnB base e v n g W) (k : Keeps F W Y) (hn : ∀ b, v.ownBlock = some b → ¬ F b) : OwnB base e v n g Y := by
  rcases h with ⟨h1, h2⟩
  refine ⟨h1, ?_⟩
  rcases h2 with h2 | ⟨b, cap, cur, h3, h4, h5, h6⟩
  · exact .inl h2
  · exact .inr ⟨b, cap, cur, h3, h4, (k.block b (Array.getElem?_eq_some_iff.1 h5).1 (hn b (by rw [h3]; rfl))).trans h5, h6⟩

theorem Keeps.le {F : Nat → Prop} {a b : World} (h : Keeps F a b) : a.heap.size ≤ b.heap.size := h.size
theorem Keeps.mono {F F' : Nat → Prop} {a b : World} (h : Keeps F a b) (hF : ∀ i, F i → F' i) : Keeps F' a b := ⟨h.os, h.tape, h.output, h.size, fun i hi hn => h.block i hi fun e => hn (hF i e), h.bk⟩
theorem BV.keep {F : Nat → Prop} {v : Value} {l : Nat} {f : Nat → BitVec 8} {W Y : World} (h : BV v l f W) (k : Keeps F W Y) (hn : ∀ a n c, v = .slice (some a) n c → ¬ F a.block) : BV v l f Y := by
  rcases h with h | ⟨a, cap, h1, h2, h3⟩
  · exact .inl h
  · exact .inr ⟨a, cap, h1, h2, h3.keep k (hn a l cap h1)⟩
/-- bytes whose block is one of bytes -/
def BB (v : Value) (l : Nat) (f : Nat → BitVec 8) (W : World) : Prop := BV v l f W ∧ ∀ a n c, v = .slice (some a) n c → IsB a.block W
theorem BB.keep {F : Nat → Prop} {v : Value} {l : Nat} {f : Nat → BitVec 8} {W Y : World} (h : BB v l f W) (k : Keeps F W Y) (hF : ∀ i, F i → ¬ IsB i W) : BB v l f Y :=
  ⟨h.1.keep k fun a n c e hf => hF _ hf (h.2 a n c e), fun a n c e => (h.2 a n c e).keep k fun hf => hF _ hf (h.2 a n c e)⟩
theorem BB.ext {v : Value} {l : Nat} {f : Nat → BitVec 8} {W Y : World} (h : BB v l f W) (k : Ext W Y) : BB v l f Y := h.keep (F := fun _ => False) (Keeps.of_ext k) fun _ e => e.elim
theorem OwnB.bb {base : Nat} {v : Value} {l : Nat} {f : Nat → BitVec 8} {W : World} (h : OwnB base 5 v l (yv f) W) : BB v l f W := by
  refine ⟨h.bv, fun a n c e => ?_⟩
  rcases h.2 with ⟨h1, _⟩ | ⟨g, cap, cur, h1, _, hg, _⟩
  · rw [e] at h1; cases h1
  · rw [e] at h1; injection h1 with h1; injection h1 with h1; rw [h1]; exact ⟨cur, (0, 0), hg⟩
/-- the cells of a Model: header, the two maps, the epoch, the root, whether it is open, and by which slot -/
def mdV (h : Hd) (sb pb : Nat) (ep : Int) (r : Rt) (op : Bool) (sl : Int) : Nat → Value := fun j =>
  if j < 24 then hdv h j else if j = 24 then .map (some sb) else if j = 25 then .map (some pb) else if j = 26 then .int .i64 ep else if j < 62 then rtv r (j - 27) else if j = 62 then .bool op else .int .i64 sl
theorem infoM : (Try.prog.info? 68).map (·.size) = some 64 := by kernel_rfl
theorem infoB : (Try.prog.info? 61).map (·.size) = some 512 := by kernel_rfl
/-- what a model has -/
structure MSt where
  h : Hd
  S : Int → Option (Nat → BitVec 8)
  P : Int → Option (Nat × (Nat → BitVec 8))
  ep : Int
  r : Rt
  op : Bool
  sl : Int
/-- a sector's 512 bytes as one value -/
def secV (f : Nat → BitVec 8) : Value := .agg (row 512 (yv f)).toArray
/-- where a model lies: its maps, and the values of the second -/
structure MLoc where
  sb : Nat
  pb : Nat
  m : Int → Option Value
/-- a model in memory -/
structure MdM (F : Nat → Prop) (p : Nat) (s : MSt) (C : Nat) (M : MLoc) (W : World) : Prop where
  st : RowAt p 64 (mdV s.h M.sb M.pb s.ep s.r s.op s.sl) W
  okh : okH s.h
  eps : 1 ≤ s.ep ∧ s.ep ≤ 4294967295
  mpS : MapAt Try.prog 3 M.sb C (fun x => (s.S x).map secV) W
  mpP : MapAt Try.prog 3 M.pb C M.m W
  hasP : ∀ x, (M.m x).isSome = (s.P x).isSome
  cont : ∀ x v, M.m x = some v → ∃ l f, s.P x = some (l, f) ∧ l ≤ 512 ∧ BB v l f W
  kS : ∀ x, s.S x ≠ none → 0 ≤ x ∧ x < s.h.se
  kP : ∀ x, s.P x ≠ none → 0 ≤ x ∧ x < s.h.sl
  fp : F p
  fs : F M.sb
  fm : F M.pb
  nb : ∀ i, F i → ¬ IsB i W
  lt : ∀ i, F i → i < W.heap.size
  ps : p ≠ M.sb
  pm : p ≠ M.pb
  sm : M.sb ≠ M.pb
section
variable {F : Nat → Prop} {p : Nat} {s : MSt} {C : Nat} {M : MLoc} {W Y : World}
theorem MapAt.keep {F : Nat → Prop} {k : TypeId} {b n : Nat} {m : Int → Option Value} {W Y : World} (h : MapAt Try.prog k b n m W) (hk : Keeps F W Y) (hn : ¬ F b) : MapAt Try.prog k b n m Y := h.same (hk.block b h.lt hn)
theorem MdM.keep {G : Nat → Prop} (h : MdM F p s C M W) (k : Keeps G W Y) (hd : ∀ i, F i → ¬ G i) (hG : ∀ i, G i → ¬ IsB i W) : MdM F p s C M Y where
  st := h.st.keep k (hd _ h.fp)
  okh := h.okh
  eps := h.eps
  mpS := h.mpS.keep k (hd _ h.fs)
  mpP := h.mpP.keep k (hd _ h.fm)
  hasP := h.hasP
  cont := fun x v e => by
    obtain ⟨l, f, h1, h2, h3⟩ := h.cont x v e
    exact ⟨l, f, h1, h2, h3.keep k hG⟩
  kS := h.kS
  kP := h.kP
  fp := h.fp
  fs := h.fs
  fm := h.fm
  nb := fun i hi e => h.nb i hi (k.bk i (h.lt i hi) e)
  lt := fun i hi => Nat.lt_of_lt_of_le (h.lt i hi) k.size
  ps := h.ps
  pm := h.pm
  sm := h.sm
theorem MdM.ext (h : MdM F p s C M W) (k : Ext W Y) : MdM F p s C M Y := h.keep (G := fun _ => False) (Keeps.of_ext k) (fun _ _ e => e) fun _ e => e.elim
theorem MapAt.notB {k : TypeId} {b n : Nat} {m : Int → Option Value} (h : MapAt Try.prog k b n m W) : ¬ IsB b W := by
  obtain ⟨D, ⟨es, clock, h1, _⟩, _⟩ := h
  rintro ⟨cur, fz, h2⟩
  rw [h1] at h2
  cases h2
/-- a model behind a change of its cells and of its sectors -/
theorem MdM.step {G : Nat → Prop} {C' : Nat} (hM : MdM F p s C M W) (K : Keeps G W Y) (hG : ∀ i, G i → F i) (s' : MSt) (hh : s'.h = s.h) (hP : s'.P = s.P) (eps : 1 ≤ s'.ep ∧ s'.ep ≤ 4294967295) (st : RowAt p 64 (mdV s'.h M.sb M.pb s'.ep s'.r s'.op s'.sl) Y)
    (mpS : MapAt Try.prog 3 M.sb C' (fun x => (s'.S x).map secV) Y) (hC : C ≤ C') (kS : ∀ x, s'.S x ≠ none → 0 ≤ x ∧ x < s'.h.se) (hpb : ¬ G M.pb) : MdM F p s' C' M Y where
  st := st
  okh := by rw [hh]; exact hM.okh
  eps := eps
  mpS := mpS
  mpP := (hM.mpP.keep K hpb).mono hC
  hasP := fun x => by rw [hP]; exact hM.hasP x
  cont := fun x v e => by
    obtain ⟨l, f, h1, h2, h3⟩ := hM.cont x v e
    exact ⟨l, f, by rw [hP]; exact h1, h2, h3.keep K fun i hi => hM.nb i (hG i hi)⟩
  kS := kS
  kP := fun x hx => by rw [hh]; rw [hP] at hx; exact hM.kP x hx
  fp := hM.fp
  fs := hM.fs
  fm := hM.fm
  nb := fun i hi e => hM.nb i hi (K.bk i (hM.lt i hi) e)
  lt := fun i hi => Nat.lt_of_lt_of_le (hM.lt i hi) K.size
  ps := hM.ps
  pm := hM.pm
  sm := hM.sm
theorem MdM.mono {C' : Nat} (h : MdM F p s C M W) (hC : C ≤ C') : MdM F p s C' M W := { h with mpS := h.mpS.mono hC, mpP := h.mpP.mono hC }
end
end Go.Proofs.Ytcipkfalnjgghaa
