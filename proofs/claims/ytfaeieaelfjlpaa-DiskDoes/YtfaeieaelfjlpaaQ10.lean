/-
  Bytes that are made: zeros, in a block of the call's own. A disk in memory: what is sure, a map of unsure writes, the power; which blocks are its own, and what stays when others are written.
-/
import Derived.Test.YtfaeieaelfjlpaaQ5
import Derived.Test.YtfaeieaelfjlpaaQ3
import Derived.OwnWalk
import Derived.Test.YtfaeieaelfjlpaaQ6
import Derived.Test.YtfaeieaelfjlpaaQ7
import Derived.Test.YtfaeieaelfjlpaaQ9
import Derived.Maps.AppendAt
namespace Go.Proofs.Ytfaeieaelfjlpaa
open Go.RowKit Go.BigFrame
theorem made_row (k : Nat) : (madeCells (Value.int .u8 0).cells (k * 1)).toList = row k (yv fun _ => 0#8) := by
  apply List.ext_getElem?
  intro i
  by_cases h : i < k
  · rw [row_get k _ i h]
    simp [madeCells, Value.cells, h, Nat.mod_one, yv]
  · rw [List.getElem?_eq_none (by simp [madeCells]; omega), List.getElem?_eq_none (by rw [row_length]; omega)]
/-- make([]byte, n) -/
theorem wpList_made {P : Program} {t e : TypeId} (w : World) {ops : Array Oper} {rest : List Oper} {o : Oper} {a : Act} {Q : Exit → Act → World → Prop}
    (hu : P.underlying t = some (.slice e)) (hi : (P.info? e).map (fun i => (i.zero, i.size, i.bytes)) = some (some (.int .u8 0), 1, 1)) (hg : o.guard = none) (l c : Operand) (hop : o.op = Op.makeSlice t l c)
    (n : Nat) (hl : a.eval l = .int .i64 (n : Int)) (hc : a.eval c = .int .i64 (n : Int)) (b : n ≤ 140737488355328)
    (hK : ∀ w', OwnB w.heap.size e (.slice (some ⟨w.heap.size, 0, none⟩) n n) n (yv fun _ => 0#8) w' → Ext w w' → wpList P ops Q rest (a.put o.dst (.slice (some ⟨w.heap.size, 0, none⟩) n n)) w') :
    wpList P ops Q (o :: rest) a w := by
  obtain ⟨ti, hi1, hi2, hi3, hi4⟩ := info_parts hi
  refine wpList_make_full w hg l c t hop w.heap.size e ti (.int .u8 0) 1 hu hi1 hi2 hi3 .i64 .i64 (n : Int) (n : Int) n hl hc rfl rfl (by rw [hi4]; omega) (by unfold maxLen; omega) (Nat.le_refl _) ?_
  intro w1 hO hg1
  rw [made_row n] at hO
  exact hK w1 hO ⟨hg1.os, hg1.tape, hg1.output, hg1.size, fun k hk => hg1.block k hk (by simp)⟩
end Go.Proofs.Ytfaeieaelfjlpaa
namespace Go.Proofs.Ytfaeieaelfjlpaa
open Go.RowKit Go.BigFrame Go.Maps
/-- a block of bytes -/
def IsB (i : Nat) (W : World) : Prop := ∃ cur fz, W.heap[i]? = some (.cells cur 5 fz)
/-- 512 bytes that lie from the head of such a block on -/
def CB (v : Value) (f : Nat → BitVec 8) (W : World) : Prop := ∃ b cap, v = .slice (some ⟨b, 0, none⟩) 512 cap ∧ 512 ≤ cap ∧ LieAt ⟨b, 0, none⟩ 512 (yv f) W ∧ IsB b W
/-- all that lay in w lies in w' as it was, but for the blocks of F -/
structure Keeps (F : Nat → Prop) (w w' : World) : Prop where
  os : w'.os = w.os
  tape : w'.tape = w.tape
  output : w'.output = w.output
  size : w.heap.size ≤ w'.heap.size
  block : ∀ i, i < w.heap.size → ¬ F i → w'.heap[i]? = w.heap[i]?
theorem Keeps.refl (F : Nat → Prop) (w : World) : Keeps F w w := ⟨rfl, rfl, rfl, Nat.le_refl _, fun _ _ _ => rfl⟩
theorem Keeps.of_ext {F : Nat → Prop} {w w' : World} (h : Ext w w') : Keeps F w w' := ⟨Below.os h, Below.tape h, Below.output h, Below.size h, fun i hi _ => Below.block h i hi⟩
theorem Keeps.of_grown {F : Nat → Prop} {w w' : World} {row : Option Nat} (h : w.grownBy w' row) (hr : ∀ b, row = some b → F b ∨ w.heap.size ≤ b) : Keeps F w w' :=
  ⟨h.os, h.tape, h.output, h.size, fun i hi hn => h.block i hi fun e => by
    rcases hr i e.symm with h1 | h1
    · exact hn h1
    · omega⟩
theorem Keeps.trans {F F' : Nat → Prop} {a b c : World} (h : Keeps F a b) (k : Keeps F' b c) (hF : ∀ i, F' i → F i ∨ a.heap.size ≤ i) : Keeps F a c :=
  ⟨k.os.trans h.os, k.tape.trans h.tape, k.output.trans h.output, Nat.le_trans h.size k.size, fun i hi hn => (k.block i (Nat.lt_of_lt_of_le hi h.size) fun e => by
    rcases hF i e with h1 | h1
    · exact hn h1
    · omega).trans (h.block i hi hn)⟩
theorem Keeps.ext {F : Nat → Prop} {a b c : World} (h : Keeps F a b) (k : Ext b c) : Keeps F a c := h.trans (F' := F) (Keeps.of_ext k) fun _ hi => .inl hi
theorem Keeps.below {F : Nat → Prop} {B : Nat} {a b : World} (h : Keeps F a b) (hB : B ≤ a.heap.size) (hF : ∀ i, F i → B ≤ i) : Below B a b :=
  ⟨h.os, h.tape, h.output, h.size, fun i hi => h.block i (by omega) fun e => by have := hF i e; omega⟩
theorem Keeps.none {F : Nat → Prop} {a b : World} (h : Keeps F a b) (hF : ∀ i, F i → a.heap.size ≤ i) : Ext a b := h.below (Nat.le_refl _) hF
theorem IsB.lt {i : Nat} {W : World} (h : IsB i W) : i < W.heap.size := by
  obtain ⟨cur, fz, h⟩ := h
  exact (Array.getElem?_eq_some_iff.1 h).1
theorem IsB.keep {F : Nat → Prop} {i : Nat} {W Y : World} (h : IsB i W) (k : Keeps F W Y) (hn : ¬ F i) : IsB i Y := by
  have hl := h.lt
  obtain ⟨cur, fz, h⟩ := h
  exact ⟨cur, fz, (k.block i hl hn).trans h⟩
theorem IsB.back {F : Nat → Prop} {i : Nat} {W Y : World} (h : IsB i Y) (k : Keeps F W Y) (hl : i < W.heap.size) (hn : ¬ F i) : IsB i W := by
  obtain ⟨cur, fz, h⟩ := h
  exact ⟨cur, fz, (k.block i hl hn).symm.trans h⟩
theorem RowAt.keep {F : Nat → Prop} {b n : Nat} {g : Nat → Value} {W Y : World} (h : RowAt b n g W) (k : Keeps F W Y) (hn : ¬ F b) : RowAt b n g Y :=
  ⟨fun j hj => (World.cell?_of_block (a := ⟨b, j, none⟩) (k.block b h.2.2 hn)).trans (h.1 j hj), fun j hj => (World.frozen?_of_block (a := ⟨b, j, none⟩) (k.block b h.2.2 hn)).trans (h.2.1 j hj), Nat.lt_of_lt_of_le h.2.2 k.size⟩
theorem LieAt.keep {F : Nat → Prop} {a : Addr} {n : Nat} {g : Nat → Value} {W Y : World} (h : LieAt a n g W) (k : Keeps F W Y) (hn : ¬ F a.block) : LieAt a n g Y :=
  ⟨fun j hj => (World.cell?_of_block (a := a.add j) (by rw [add_block]; exact k.block _ h.2 hn)).trans (h.1 j hj), Nat.lt_of_lt_of_le h.2 k.size⟩
theorem CB.keep {F : Nat → Prop} {v : Value} {f : Nat → BitVec 8} {W Y : World} (h : CB v f W) (k : Keeps F W Y) (hF : ∀ i, F i → ¬ IsB i W) : CB v f Y := by
  obtain ⟨b, cap, h1, h2, h3, h4⟩ := h
  have hn : ¬ F b := fun e => hF b e h4
  exact ⟨b, cap, h1, h2, h3.keep k hn, h4.keep k hn⟩
theorem CB.ext {v : Value} {f : Nat → BitVec 8} {W Y : World} (h : CB v f W) (k : Ext W Y) : CB v f Y := h.keep (F := fun _ => False) (Keeps.of_ext k) fun _ e => e.elim
theorem CB.bv {v : Value} {f : Nat → BitVec 8} {W : World} (h : CB v f W) : BV v 512 f W := by
  obtain ⟨b, cap, h1, h2, h3, _⟩ := h
  exact .inr ⟨_, cap, h1, h2, h3⟩
theorem CB.congr {v : Value} {f g : Nat → BitVec 8} {W : World} (h : CB v f W) (e : ∀ j, j < 512 → f j = g j) : CB v g W := by
  obtain ⟨b, cap, h1, h2, h3, h4⟩ := h
  exact ⟨b, cap, h1, h2, ⟨fun j hj => by rw [h3.1 j hj]; unfold yv; rw [e j hj], h3.2⟩, h4⟩
theorem OwnB.cb {base : Nat} {v : Value} {f : Nat → BitVec 8} {W : World} (h : OwnB base 5 v 512 (yv f) W) : CB v f W := by
  have h0 := h
  rcases h.2 with ⟨_, h2⟩ | ⟨b, cap, cur, rfl, hb, hg, hc, hm, _, ht⟩
  · omega
  · refine ⟨b, cap, rfl, hc, ⟨fun j hj => ?_, (Array.getElem?_eq_some_iff.1 hg).1⟩, cur, (0, 0), hg⟩
    exact World.ownsRow.cells h0 (g := b) rfl j (yv f j) (row_get 512 (yv f) j hj)
theorem OwnB.keep {F : Nat → Prop} {base : Nat} {e : TypeId} {v : Value} {n : Nat} {g : Nat → Value} {W Y : World} (h : OwnB base e v n g W) (k : Keeps F W Y) (hn : ∀ b, v.ownBlock = some b → ¬ F b) : OwnB base e v n g Y := by
  rcases h with ⟨h1, h2⟩
  refine ⟨h1, ?_⟩
  rcases h2 with h2 | ⟨b, cap, cur, h3, h4, h5, h6⟩
  · exact .inl h2
  · exact .inr ⟨b, cap, cur, h3, h4, (k.block b (Array.getElem?_eq_some_iff.1 h5).1 (hn b (by rw [h3]; rfl))).trans h5, h6⟩
/-- what a disk has: so many blocks, what is sure of each, how many unsure writes each has and which, and for how many calls there is power -/
structure DSt where
  N : Nat
  S : Nat → Nat → BitVec 8
  kc : Nat → Nat
  uc : Nat → Nat → Nat → BitVec 8
  pw : Int
/-- where it lies -/
structure DM where
  sb : Nat
  cp : Nat
  mb : Nat
  sv : Nat → Value
  m : Int → Option Value
  us : Nat → Nat → Value
/-- the three cells of a Disk -/
def dkV (N sb cp mb : Nat) (pw : Int) (j : Nat) : Value := if j = 0 then .slice (some ⟨sb, 0, none⟩) N cp else if j = 1 then .map (some mb) else .int .i64 pw
structure DkM (F : Nat → Prop) (p : Nat) (s : DSt) (C : Nat) (M : DM) (W : World) : Prop where
  st : RowAt p 3 (dkV s.N M.sb M.cp M.mb s.pw) W
  n4 : s.N ≤ 4096
  pk : -9223372036854775808 ≤ s.pw ∧ s.pw ≤ 9223372036854775807
  ncp : s.N ≤ M.cp
  sure : RowAt M.sb s.N M.sv W
  mp : MapAt Try.prog 3 M.mb C M.m W
  cont : ∀ i, i < s.N → CB (M.sv i) (s.S i) W
  keys : ∀ x, okI x → M.m x ≠ none → ∃ n : Nat, x = (n : Int) ∧ n < s.N
  list : ∀ n : Nat, n < s.N → (M.m n = none ∧ s.kc n = 0) ∨ ∃ v, M.m n = some v ∧ 0 < s.kc n ∧ OwnB 0 31 v (s.kc n) (M.us n) W
  writes : ∀ n j, n < s.N → j < s.kc n → CB (M.us n j) (s.uc n j) W
  kcC : ∀ n, n < s.N → s.kc n ≤ C
  fp : F p
  fs : F M.sb
  fm : F M.mb
  fl : ∀ (n : Nat) v b, n < s.N → M.m n = some v → v.ownBlock = some b → F b
  nb : ∀ i, F i → ¬ IsB i W
  lt : ∀ i, F i → i < W.heap.size
  ps : p ≠ M.sb
  pm : p ≠ M.mb
  sm : M.sb ≠ M.mb
  la : ∀ (n : Nat) v b, n < s.N → M.m n = some v → v.ownBlock = some b → b ≠ p ∧ b ≠ M.sb ∧ b ≠ M.mb
  ll : ∀ (n n' : Nat) v v' b, n < s.N → n' < s.N → n ≠ n' → M.m n = some v → M.m n' = some v' → v.ownBlock = some b → v'.ownBlock ≠ some b
section
variable {F : Nat → Prop} {p : Nat} {s : DSt} {C : Nat} {M : DM} {W Y : World}
theorem DkM.keep {G : Nat → Prop} (h : DkM F p s C M W) (k : Keeps G W Y) (hd : ∀ i, F i → ¬ G i) (hG : ∀ i, G i → ¬ IsB i W) : DkM F p s C M Y where
  st := h.st.keep k (hd _ h.fp)
  n4 := h.n4
  pk := h.pk
  ncp := h.ncp
  sure := h.sure.keep k (hd _ h.fs)
  mp := h.mp.same (k.block _ h.mp.lt (hd _ h.fm))
  cont := fun i hi => (h.cont i hi).keep k hG
  keys := h.keys
  list := fun n hn => by
    rcases h.list n hn with h1 | ⟨v, h1, h2, h3⟩
    · exact .inl h1
    · exact .inr ⟨v, h1, h2, h3.keep k fun b hb => hd b (h.fl n v b hn h1 hb)⟩
  writes := fun n j hn hj => (h.writes n j hn hj).keep k hG
  kcC := h.kcC
  fp := h.fp
  fs := h.fs
  fm := h.fm
  fl := h.fl
  nb := fun i hi hb => h.nb i hi (hb.back k (h.lt i hi) (hd i hi))
  lt := fun i hi => Nat.lt_of_lt_of_le (h.lt i hi) k.size
  ps := h.ps
  pm := h.pm
  sm := h.sm
  la := h.la
  ll := h.ll
theorem DkM.ext (h : DkM F p s C M W) (k : Ext W Y) : DkM F p s C M Y := h.keep (G := fun _ => False) (Keeps.of_ext k) (fun _ _ e => e) fun _ e => e.elim
theorem DkM.mono {C' : Nat} (h : DkM F p s C M W) (hC : C ≤ C') : DkM F p s C' M W := { h with mp := h.mp.mono hC, kcC := fun n hn => Nat.le_trans (h.kcC n hn) hC }
theorem IsB.unset {b : Nat} {W : World} {a : Addr} {v : Value} (h : IsB b (W.setCell a v)) : IsB b W := by
  obtain ⟨c, z, h1⟩ := h
  unfold World.setCell at h1
  simp only [Array.getElem?_modify] at h1
  by_cases hp : a.block = b
  · rw [if_pos hp] at h1
    cases ho : W.heap[b]? with
    | none => rw [ho] at h1; cases h1
    | some o =>
      rw [ho] at h1
      cases o with
      | cells cc t zz =>
        simp only [Option.map_some, Option.some.injEq, Obj.cells.injEq] at h1
        obtain ⟨_, rfl, _⟩ := h1
        exact ⟨cc, zz, ho⟩
      | _ => simp at h1
  · rw [if_neg hp] at h1
    exact ⟨c, z, h1⟩
theorem nb_turn {c : Nat} (h : DkM F p s C M W) (k : But c W Y) (hc : ¬ IsB c Y) : ∀ i, F i → ¬ IsB i Y := fun i hi hb => by
  by_cases e : i = c
  · subst e
    exact hc hb
  · obtain ⟨cur, fz, hb⟩ := hb
    exact h.nb i hi ⟨cur, fz, (k.block i (h.lt i hi) (by simpa using e)).symm.trans hb⟩
theorem but_keeps {c : Nat} (k : But c W Y) (hc : F c) : Keeps F W Y := Keeps.of_grown k fun b hb => by cases hb; exact .inl hc
theorem DkM.ok (h : DkM F p s C M W) (n : Nat) (hn : n < s.N) : okI (n : Int) := WalkArith.wf_i64 (by have := h.n4; omega)
/-- the power turned -/
theorem DkM.turnP (h : DkM F p s C M W) (k : But p W Y) (pw : Int) (hst : RowAt p 3 (dkV s.N M.sb M.cp M.mb pw) Y) (hpk : -9223372036854775808 ≤ pw ∧ pw ≤ 9223372036854775807) (hb : ¬ IsB p Y) : DkM F p { s with pw := pw } C M Y where
  st := hst
  n4 := h.n4
  pk := hpk
  ncp := h.ncp
  sure := h.sure.but k (Ne.symm h.ps)
  mp := h.mp.kept k (by simpa using Ne.symm h.pm)
  cont := fun i hi => (h.cont i hi).keep (but_keeps k h.fp) h.nb
  keys := h.keys
  list := fun n hn => by
    rcases h.list n hn with h1 | ⟨v, h1, h2, h3⟩
    · exact .inl h1
    · exact .inr ⟨v, h1, h2, h3.kept k (by
        cases hv : v.ownBlock with
        | none => exact .inl rfl
        | some b => exact .inr (by simpa using (h.la n v b hn h1 hv).1))⟩
  writes := fun n j hn hj => (h.writes n j hn hj).keep (but_keeps k h.fp) h.nb
  kcC := h.kcC
  fp := h.fp
  fs := h.fs
  fm := h.fm
  fl := h.fl
  nb := nb_turn h k hb
  lt := fun i hi => Nat.lt_of_lt_of_le (h.lt i hi) k.size
  ps := h.ps
  pm := h.pm
  sm := h.sm
  la := h.la
  ll := h.ll
/-- what is sure turned -/
theorem DkM.turnS (h : DkM F p s C M W) (k : But M.sb W Y) (sv : Nat → Value) (T : Nat → Nat → BitVec 8) (hst : RowAt M.sb s.N sv Y) (hc : ∀ i, i < s.N → CB (sv i) (T i) Y) (hb : ¬ IsB M.sb Y) : DkM F p { s with S := T } C { M with sv := sv } Y where
  st := h.st.but k h.ps
  n4 := h.n4
  pk := h.pk
  ncp := h.ncp
  sure := hst
  mp := h.mp.kept k (by simpa using Ne.symm h.sm)
  cont := hc
  keys := h.keys
  list := fun n hn => by
    rcases h.list n hn with h1 | ⟨v, h1, h2, h3⟩
    · exact .inl h1
    · exact .inr ⟨v, h1, h2, h3.kept k (by
        cases hv : v.ownBlock with
        | none => exact .inl rfl
        | some b => exact .inr (by simpa using (h.la n v b hn h1 hv).2.1))⟩
  writes := fun n j hn hj => (h.writes n j hn hj).keep (but_keeps k h.fs) h.nb
  kcC := h.kcC
  fp := h.fp
  fs := h.fs
  fm := h.fm
  fl := h.fl
  nb := nb_turn h k hb
  lt := fun i hi => Nat.lt_of_lt_of_le (h.lt i hi) k.size
  ps := h.ps
  pm := h.pm
  sm := h.sm
  la := h.la
  ll := h.ll
/-- the map turned: no more entries than there were -/
theorem DkM.turnM {C' : Nat} (h : DkM F p s C M W) (k : But M.mb W Y) (m : Int → Option Value) (kc : Nat → Nat) (hm : MapAt Try.prog 3 M.mb C' m Y) (h1 : ∀ x v, okI x → m x = some v → M.m x = some v) (h2 : ∀ n : Nat, n < s.N → (m n = none ∧ kc n = 0) ∨ (m n = M.m n ∧ kc n = s.kc n)) (hC : ∀ n, n < s.N → kc n ≤ C') (hb : ¬ IsB M.mb Y) : DkM F p { s with kc := kc } C' { M with m := m } Y where
  st := h.st.but k h.pm
  n4 := h.n4
  pk := h.pk
  ncp := h.ncp
  sure := h.sure.but k h.sm
  mp := hm
  cont := fun i hi => (h.cont i hi).keep (but_keeps k h.fm) h.nb
  keys := fun x hx hn => by
    cases hmx : m x with
    | none => exact absurd hmx hn
    | some v => exact h.keys x hx (by rw [h1 x v hx hmx]; simp)
  list := fun n hn => by
    rcases h2 n hn with h3 | ⟨h3, h4⟩
    · exact .inl h3
    · show (m n = none ∧ kc n = 0) ∨ _
      rcases h.list n hn with h5 | ⟨v, h5, h6, h7⟩
      · exact .inl ⟨h3.trans h5.1, h4.trans h5.2⟩
      · refine .inr ⟨v, h3.trans h5, by show 0 < kc n; rw [h4]; exact h6, ?_⟩
        show OwnB 0 31 v (kc n) (M.us n) Y
        rw [h4]
        exact h7.kept k (by
          cases hv : v.ownBlock with
          | none => exact .inl rfl
          | some b => exact .inr (by simpa using (h.la n v b hn h5 hv).2.2))
  writes := fun n j hn hj => by
    have hj' : j < kc n := hj
    rcases h2 n hn with h3 | ⟨h3, h4⟩
    · omega
    · exact (h.writes n j hn (by omega)).keep (but_keeps k h.fm) h.nb
  kcC := hC
  fp := h.fp
  fs := h.fs
  fm := h.fm
  fl := fun n v b hn hv => h.fl n v b hn (h1 n v (h.ok n hn) hv)
  nb := nb_turn h k hb
  lt := fun i hi => Nat.lt_of_lt_of_le (h.lt i hi) k.size
  ps := h.ps
  pm := h.pm
  sm := h.sm
  la := fun n v b hn hv => h.la n v b hn (h1 n v (h.ok n hn) hv)
  ll := fun n n' v v' b hn hn' hne hv hv' => h.ll n n' v v' b hn hn' hne (h1 n v (h.ok n hn) hv) (h1 n' v' (h.ok n' hn') hv')
theorem map_notB {P : Program} {k : TypeId} {b n : Nat} {m : Int → Option Value} {w : World} (h : MapAt P k b n m w) : ¬ IsB b w := fun ⟨cur, fz, hb⟩ => by
  obtain ⟨D, ⟨es, clock, h1, _⟩, _⟩ := h
  rw [h1] at hb
  cases hb
end
end Go.Proofs.Ytfaeieaelfjlpaa
