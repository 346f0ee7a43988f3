/-
  Slices of integers that a call has made for itself: how they grow by append, how they lie; no word of the program. How slices of bytes that came in read. The document's Block: the state behind a piece, for every state and piece, in every world, of which nothing that was there turns.
-/
import Derived.Test.YtfpfgbhdehbggaaGreatDoorQb5
import Derived.Laws.AppendOwn
import Derived.Laws.AppendOwnNone
import Derived.Test.YtfpfgbhdehbggaaGreatDoorQb7
import Derived.SizedLaws
import Derived.Test.YtfpfgbhdehbggaaGreatDoorQb1
import Derived.Test.YtfpfgbhdehbggaaGreatDoorQb3
import Derived.Test.YtfpfgbhdehbggaaGreatDoorQb4
namespace Go.Proofs.YtfpfgbhdehbggaaGreatDoor
open Go.RowKit Go.BigFrame
theorem RowAt.grown {b n : Nat} {g : Nat → Value} {w w' : World} {row : Option Nat} (h : RowAt b n g w) (hg : w.grownBy w' row) (hne : some b ≠ row) : RowAt b n g w' :=
  ⟨fun j hj => (World.cell?_of_block (a := ⟨b, j, none⟩) (hg.block b h.2.2 hne)).trans (h.1 j hj), fun j hj => (World.frozen?_of_block (a := ⟨b, j, none⟩) (hg.block b h.2.2 hne)).trans (h.2.1 j hj), Nat.lt_of_lt_of_le h.2.2 hg.size⟩
theorem below_grown {B : Nat} {w w' : World} {row : Option Nat} (hB : B ≤ w.heap.size) (hg : w.grownBy w' row) (hr : ∀ k, row = some k → B ≤ k) : Below B w w' :=
  ⟨hg.os, hg.tape, hg.output, hg.size, fun k hk => hg.block k (by omega) (fun e => by have := hr k e.symm; omega)⟩
theorem row_append (m n : Nat) (f g h : Nat → Value) (h1 : ∀ j, j < m → f j = h j) (h2 : ∀ j, j < n → g j = h (m + j)) : row m f ++ row n g = row (m + n) h := by
  apply List.ext_getElem?
  intro i
  rw [List.getElem?_append, row_length]
  by_cases hi : i < m
  · rw [if_pos hi, row_get m f i hi, row_get (m + n) h i (by omega), h1 i hi]
  · rw [if_neg hi]
    by_cases hi2 : i < m + n
    · rw [row_get n g (i - m) (by omega), row_get (m + n) h i hi2, h2 (i - m) (by omega), show m + (i - m) = i by omega]
    · rw [List.getElem?_eq_none (by rw [row_length]; omega), List.getElem?_eq_none (by rw [row_length]; omega)]
def OwnB (base : Nat) (e : TypeId) (v : Value) (n : Nat) (g : Nat → Value) (w : World) : Prop := w.ownsRow base e 1 v n (row n g)
section
variable {base : Nat} {e : TypeId} {v : Value} {n : Nat} {g g' : Nat → Value} {w w' : World}
theorem OwnB.congr (h : OwnB base e v n g w) (hg : ∀ j, j < n → g j = g' j) : OwnB base e v n g' w := by
  unfold OwnB at h ⊢
  rw [← row_ext hg]
  exact h
theorem OwnB.kept {row : Option Nat} (h : OwnB base e v n g w) (hg : w.grownBy w' row) (hne : v.ownBlock = none ∨ v.ownBlock ≠ row) : OwnB base e v n g w' := World.ownsRow.kept h hg hne
theorem OwnB.alloc (h : OwnB base e v n g w) (o : Obj) : OwnB base e v n g (w.alloc o) := World.ownsRow.alloc h o
theorem OwnB.ext (h : OwnB base e v n g w) (k : Ext w w') : OwnB base e v n g w' :=
  World.ownsRow.kept (row := none) h ⟨Below.os k, Below.tape k, Below.output k, Below.size k, fun i hi _ => Below.block k i hi⟩ (by cases v.ownBlock <;> simp)
theorem OwnB.but {c : Nat} (h : OwnB base e v n g w) (k : But c w w') (hc : v.ownBlock ≠ some c) : OwnB base e v n g w' := World.ownsRow.kept h k (.inr hc)
theorem OwnB.lt (h : OwnB base e v n g w) : ∀ k, v.ownBlock = some k → base ≤ k ∧ k < w.heap.size := World.ownsRow.lt h
theorem OwnB.lies (h : OwnB base e v n g w) (hn : 0 < n) : ∃ b cap, v = .slice (some ⟨b, 0, none⟩) n cap ∧ base ≤ b ∧ n ≤ cap ∧ cap ≤ maxLen ∧ RowAt b n g w := by
  have h0 := h
  rcases h.2 with ⟨_, h2⟩ | ⟨b, cap, cur, rfl, hb, hg, hc, hm, _, ht⟩
  · omega
  · refine ⟨b, cap, rfl, hb, hc, hm, fun j hj => ?_, fun j hj => ?_, (Array.getElem?_eq_some_iff.1 hg).1⟩
    · have h1 := World.ownsRow.cells h0 (g := b) rfl j (g j) (row_get n g j hj)
      have hadd : (⟨b, 0, none⟩ : Addr).add j = ⟨b, j, none⟩ := by unfold Addr.add; split <;> simp_all
      rwa [hadd] at h1
    · simp [World.frozen?, hg]
theorem own_empty (w : World) (base : Nat) (e : TypeId) (g : Nat → Value) (hb : base ≤ w.heap.size) : OwnB base e (.slice (some ⟨w.heap.size, 0, none⟩) 0 0) 0 g (w.alloc (.cells #[] e)) :=
  World.ownsRow_made w #[] 0 hb (Nat.zero_le _) (by simp)
theorem own_nil (w : World) (base : Nat) (e : TypeId) (g : Nat → Value) : OwnB base e (.slice none 0 0) 0 g w := World.ownsRow_nil w base e 1
structure ElemIs (P : Program) (t e : TypeId) : Prop where
  slice : P.underlying t = some (.slice e)
  info : ∃ i z, P.info? e = some i ∧ i.zero = some z ∧ i.size = 1 ∧ i.bytes = 1 ∧ z.cells.size = 1
theorem wpList_grow {P : Program} {ops : Array Oper} {rest : List Oper} {o : Oper} {a : Act} {Q : Exit → Act → World → Prop} {t : TypeId} (E : ElemIs P t e) (hgd : o.guard = none) (s x : Operand)
    (ho : o.op = .call { callee := .builtin .append, args := #[s, x], argTypes := #[t, t] }) (hs : a.eval s = v) (hown : OwnB base e v n g w)
    (ad : Addr) (m c : Nat) (u f : Nat → Value) (hx : a.eval x = .slice (some ad) m c) (hl : LieAt ad m u w) (h1 : ∀ j, j < m → (u j).oneCell' = true) (hf1 : ∀ j, j < n → g j = f j) (hf2 : ∀ j, j < m → u j = f (n + j))
    (hbytes : n + m ≤ 140737488355328) (hbase : base ≤ w.heap.size)
    (h : ∀ v' w', OwnB base e v' (n + m) f w' → w.grownBy w' v.ownBlock → wpList P ops Q rest (a.put o.dst v') w') : wpList P ops Q (o :: rest) a w := by
  obtain ⟨i, z, e1, e2, e3, e4, e5⟩ := E.info
  refine wpList_append_own w hgd s x t ho base e i z 1 1 E.slice e1 e2 e3 e4 e5 (by decide) v n (row n g) hs hown ad m c (row m u) hx (by rw [row_length]; omega) (fun j w0 hj => ?_) (fun w0 hw0 => ?_) (by unfold maxLen; omega) (by omega) hbase fun v' w' h2 h3 _ => h v' w' ?_ h3
  · obtain ⟨hj', rfl⟩ := row_some hj
    exact hl.1 j hj'
  · obtain ⟨j, hj, rfl⟩ := List.mem_map.1 hw0
    exact h1 j (by simpa using hj)
  · unfold OwnB
    rwa [row_append n m g u f hf1 hf2] at h2
theorem wpList_grow_none {P : Program} {ops : Array Oper} {rest : List Oper} {o : Oper} {a : Act} {Q : Exit → Act → World → Prop} {t : TypeId} (E : ElemIs P t e) (hgd : o.guard = none) (s x : Operand)
    (ho : o.op = .call { callee := .builtin .append, args := #[s, x], argTypes := #[t, t] }) (hs : a.eval s = v) (hown : OwnB base e v n g w) (hx : a.eval x = .slice none 0 0)
    (h : wpList P ops Q rest (a.put o.dst v) w) : wpList P ops Q (o :: rest) a w := by
  obtain ⟨i, z, e1, e2, e3, e4, e5⟩ := E.info
  exact wpList_append_own_none hgd s x t ho base e i 1 E.slice e1 v n (row n g) hs hown hx h
end
theorem elem_is {P : Program} {t e : TypeId} (hs : P.underlying t = some (.slice e)) (h1 : (P.info? e).map (·.size) = some 1) (h2 : (P.info? e).map (·.bytes) = some 1) (h3 : ((P.info? e).bind (·.zero)).map (·.cells.size) = some 1) : ElemIs P t e := by
  refine ⟨hs, ?_⟩
  cases hi : P.info? e with
  | none => rw [hi] at h1; cases h1
  | some i =>
    rw [hi] at h1 h2 h3
    simp only [Option.map_some, Option.some.injEq, Option.bind_some] at h1 h2 h3
    cases hz : i.zero with
    | none => rw [hz] at h3; cases h3
    | some z =>
      rw [hz] at h3
      simp only [Option.map_some, Option.some.injEq] at h3
      exact ⟨i, z, rfl, hz, h1, h2, h3⟩
theorem lieNew (w : World) (n : Nat) (C : Array Value) (t : TypeId) (fz : Nat × Nat) (g : Nat → Value) (h : ∀ j, j < n → C[j]? = some (g j)) : LieAt ⟨w.heap.size, 0, none⟩ n g (w.alloc (.cells C t fz)) :=
  ⟨fun j hj => by
    have h1 : (w.alloc (.cells C t fz)).cell? ⟨w.heap.size, j, none⟩ = C[j]? := by
      have h2 : (w.alloc (.cells C t fz)).heap[w.heap.size]? = some (.cells C t fz) := by
        show (w.heap.push (.cells C t fz))[w.heap.size]? = _
        simp
      unfold World.cell?
      rw [h2]
      rfl
    unfold Addr.add
    by_cases e : j = 0
    · subst e
      rw [if_pos rfl, h1]
      exact h 0 hj
    · rw [if_neg e]
      show (w.alloc (.cells C t fz)).cell? ⟨w.heap.size, 0 + j, none⟩ = _
      rw [Nat.zero_add, h1]
      exact h j hj, by simp⟩
end Go.Proofs.YtfpfgbhdehbggaaGreatDoor
namespace Go.Proofs.YtfpfgbhdehbggaaGreatDoor
set_option maxRecDepth 20000
open Go.ChangeShapes Go.WideShapes Go.ChangeAt Go.RowKit
def BArg (v : Value) (W : World) : Prop := v = .slice none 0 0 ∨ ∃ a l cap b, v = .slice (some a) l cap ∧ l ≤ cap ∧ LieAt a l (yv b) W ∧ l ≤ 140737488351232
theorem has_lt {P : Program} {w : World} {r : Reach} {base n : Nat} {a : Addr} {e : TypeId} (h : w.has P r base a e n) : a.block < w.heap.size := by
  obtain ⟨_, _, row, cells, hs, _⟩ := h
  rcases Nat.lt_or_ge a.block w.heap.size with h1 | h1
  · exact h1
  · exfalso
    have h2 : w.heap[a.block]? = none := Array.getElem?_eq_none h1
    unfold World.shape? at hs
    rw [h2] at hs
    cases hs
theorem open_bytes {H : Type} {enc : TypeId × Value → H} {W : World} {r : Reach} {b0 base : Nat} {spare : Nat → Bool} {held : Bool} {v : Value} {d : DataW H} {p : List MemPlace}
    (hv : Value.okWide Tryz.prog W r b0 25 v) (h : DataW.Trod enc Tryz.prog W base spare held 25 v d p) : v = .slice none 0 0 ∨ ∃ a l cap b elems sp, v = .slice (some a) l cap ∧ l ≤ cap ∧ LieAt a l (yv b) W ∧ d = .slice elems sp ∧ elems.length = l := by
  obtain ⟨a, len, cap, rfl⟩ := okWide_slice Tryz.underlying25 hv
  obtain ⟨fuel, hf⟩ := h
  rcases open_ints Tryz.underlying25 Tryz.underlying5 (by kernel_rfl) hf with ⟨hcs, _⟩ | ⟨x, l, c, zs, hcs, _, hl, hm, hz, hd, hcell, hwz⟩
  · simp [Value.cells] at hcs
    obtain ⟨rfl, rfl, rfl⟩ := hcs
    exact .inl rfl
  · simp [Value.cells] at hcs
    obtain ⟨rfl, rfl, rfl⟩ := hcs
    have hlt : x.block < W.heap.size := by
      simp only [Value.okWide, Tryz.underlying25, Cell.okWide, Cell.ok] at hv
      exact has_lt hv.2.2
    have hlen : len ≤ zs.length := by rw [hz]; split <;> omega
    have hall : ∀ i, i < len → ∃ c : BitVec 8, zs.getD i 0 = (c.toNat : Int) := fun i hi => by
      refine of_wf8 (hwz _ ?_)
      rw [List.getD_eq_getElem?_getD, List.getElem?_eq_getElem (by omega), Option.getD_some]
      exact List.getElem_mem _
    refine .inr ⟨x, len, cap, fun i => if h : i < len then (hall i h).choose else 0#8, _, _, rfl, hl, ⟨fun j hj => ?_, hlt⟩, (Prod.mk.inj hd).1, by simp [lits]; omega⟩
    rw [hcell j (by omega)]
    simp only [yv, dif_pos hj]
    rw [← (hall j hj).choose_spec]
theorem bytes5 : Tryz.prog.bytesOf 5 = 1 := by kernel_rfl
theorem barg {H : Type} {enc : TypeId × Value → H} {W : World} {r : Reach} {b0 base : Nat} {spare : Nat → Bool} {held : Bool} {v : Value} {d : DataW H} {p : List MemPlace} {ts : List TypeId} {ds : List (DataW H)}
    (hv : Value.okWide Tryz.prog W r b0 25 v) (h : DataW.Trod enc Tryz.prog W base spare held 25 v d p) (hsz : (DataW.weightsEach Tryz.prog ts ds).all (· ≤ reachBytes) = true) (j : Nat) (ht : ts[j]? = some 25) (hd : ds[j]? = some d) : BArg v W := by
  rcases open_bytes hv h with rfl | ⟨a, l, cap, b, elems, sp, rfl, hl, hb, rfl, he⟩
  · exact .inl rfl
  · have h1 := sized_slice hsz ht hd Tryz.underlying25
    rw [bytes5] at h1
    unfold reachBytes at h1
    exact .inr ⟨a, l, cap, b, rfl, hl, hb, by omega⟩
end Go.Proofs.YtfpfgbhdehbggaaGreatDoor
namespace Go.Proofs.YtfpfgbhdehbggaaGreatDoor
set_option maxRecDepth 20000
open Go.RowKit Go.BigFrame
def RBAt (B d : Nat) (w : World) (s : Nat → BitVec 32) (p : Nat → BitVec 8) (K W : Nat → BitVec 32) (X : World) : Prop :=
  RowAt B 8 (wv s) X ∧ RowAt (B + 1) 64 (yv p) X ∧ RowAt (B + 1 + 1) 8 (wv fun _ => 0#32) X ∧ RowAt d 64 (wv K) X ∧ RowAt (d + 1) 64 (wv W) X ∧ Below B w X ∧ B + 3 ≤ d
section
variable {B d : Nat} {w X Y : World} {s K W : Nat → BitVec 32} {p : Nat → BitVec 8}
theorem RBAt.ext (h : RBAt B d w s p K W X) (k : Ext X Y) : RBAt B d w s p K W Y :=
  ⟨h.1.carry k, h.2.1.carry k, h.2.2.1.carry k, h.2.2.2.1.carry k, h.2.2.2.2.1.carry k, Ext.below h.2.2.2.2.2.1 (Nat.le_of_lt h.1.2.2) k, h.2.2.2.2.2.2⟩
theorem RBAt.drew (h : RBAt B d w s p K W X) : RBAt B d w s p K W X.drew := h.ext (Ext.refl X).draw
theorem RBAt.set (h : RBAt B d w s p K W X) (i : Nat) (v : BitVec 32) (W' : Nat → BitVec 32) (hg : ∀ j, j < 64 → W' j = if j = i then v else W j) :
    RBAt B d w s p K W' (X.setCell ⟨d + 1, i, none⟩ (.int .u32 (v.toNat : Int))) := by
  obtain ⟨h1, h2, h3, h4, h5, h6, h7⟩ := h
  refine ⟨h1.other _ _ (by simp; omega), h2.other _ _ (by simp; omega), h3.other _ _ (by simp; omega), h4.other _ _ (by simp), (h5.set i _).congr fun j hj => ?_, h6.setCell (by simp; omega) _, h7⟩
  simp only [wv, hg j hj]
  by_cases e : j = i <;> simp [e]
end
def or4 (a b c d : BitVec 8) : BitVec 32 := (a.setWidth 32 <<< 24 ||| b.setWidth 32 <<< 16) ||| c.setWidth 32 <<< 8 ||| d.setWidth 32
theorem or4_w0 (p : Nat → BitVec 8) (t : Nat) : or4 (p (4 * t)) (p (4 * t + 1)) (p (4 * t + 2)) (p (4 * t + 3)) = w0 p t := by
  unfold w0 or4
  simp only [beK, pW, Nat.add_zero]
  generalize p (4 * t) = a
  generalize p (4 * t + 1) = b
  generalize p (4 * t + 2) = c
  generalize p (4 * t + 3) = d
  rw [BitVec.zero_shiftLeft, BitVec.zero_or]
  simp only [BitVec.shiftLeft_or_distrib, ← BitVec.shiftLeft_add]
theorem or4_fact (a b c d : BitVec 8) : bits .or .u32 (bits .or .u32 (bits .or .u32 ((a.toNat : Int) * 16777216) ((b.toNat : Int) * 65536)) ((c.toNat : Int) * 256)) (d.toNat : Int) = ((or4 a b c d).toNat : Int) := by
  have ha := a.isLt
  have hb := b.isLt
  have hc := c.isLt
  have hd := d.isLt
  have e1 : (a.toNat : Int) * (16777216 : Int) = ((a.setWidth 32 <<< 24).toNat : Int) := by
    rw [BitVec.toNat_shiftLeft, BitVec.toNat_setWidth, Nat.shiftLeft_eq]; omega
  have e2 : (b.toNat : Int) * (65536 : Int) = ((b.setWidth 32 <<< 16).toNat : Int) := by
    rw [BitVec.toNat_shiftLeft, BitVec.toNat_setWidth, Nat.shiftLeft_eq]; omega
  have e3 : (c.toNat : Int) * (256 : Int) = ((c.setWidth 32 <<< 8).toNat : Int) := by
    rw [BitVec.toNat_shiftLeft, BitVec.toNat_setWidth, Nat.shiftLeft_eq]; omega
  have e4 : (d.toNat : Int) = ((d.setWidth 32).toNat : Int) := by rw [BitVec.toNat_setWidth]; omega
  rw [e1, e2, e3, e4, oW_fact, oW_fact, oW_fact]
  rfl
def gR (p : Nat → BitVec 8) (n j : Nat) : BitVec 32 := if j < n then w0 p j else 0#32
set_option maxRecDepth 20000 in
set_option maxHeartbeats 4000000 in
theorem rblock_any (s : Nat → BitVec 32) (p : Nat → BitVec 8) (w : World) :
    Calls Tryz.prog 83 #[.agg (row 8 (wv s)).toArray, .agg (row 64 (yv p)).toArray] w fun e w' => e = .returned (.agg (row 8 (wv (blockF s p))).toArray) ∧ Below w.heap.size w w' := by
  obtain ⟨R, hR⟩ : ∃ R, R = blockF s p := ⟨_, rfl⟩
  obtain ⟨K, hK⟩ : ∃ K, K = kT := ⟨_, rfl⟩
  have hco := consts_any
  rw [← hK] at hco
  rw [← hR]
  replace hR := hideit hR
  replace hK := hideit hK
  replace hco := hideit hco
  have hz := zero42
  have hz8 := zero28
  have HA : RowAt w.heap.size 8 (wv s) (((w.alloc (.cells (row 8 (wv s)).toArray 141)).alloc (.cells (row 64 (yv p)).toArray 26)).alloc (.cells (row 8 (wv fun _ => 0#32)).toArray 141)) := ((RowAt.new w 8 (wv s) 141).alloc _).alloc _
  have HP : RowAt (w.heap.size + 1) 64 (yv p) (((w.alloc (.cells (row 8 (wv s)).toArray 141)).alloc (.cells (row 64 (yv p)).toArray 26)).alloc (.cells (row 8 (wv fun _ => 0#32)).toArray 141)) := by
    have := (RowAt.new (w.alloc (.cells (row 8 (wv s)).toArray 141)) 64 (yv p) 26).alloc (.cells (row 8 (wv fun _ => 0#32)).toArray 141)
    simpa using this
  have HZ : RowAt (w.heap.size + 1 + 1) 8 (wv fun _ => 0#32) (((w.alloc (.cells (row 8 (wv s)).toArray 141)).alloc (.cells (row 64 (yv p)).toArray 26)).alloc (.cells (row 8 (wv fun _ => 0#32)).toArray 141)) := by
    have := RowAt.new ((w.alloc (.cells (row 8 (wv s)).toArray 141)).alloc (.cells (row 64 (yv p)).toArray 26)) 8 (wv fun _ => 0#32) 141
    simpa using this
  have HB : Below w.heap.size w (((w.alloc (.cells (row 8 (wv s)).toArray 141)).alloc (.cells (row 64 (yv p)).toArray 26)).alloc (.cells (row 8 (wv fun _ => 0#32)).toArray 141)) := (((Below.refl _ _).alloc (Nat.le_refl _) _).alloc (by simp) _).alloc (by simp; omega) _
  replace HA := hideit HA
  replace HP := hideit HP
  replace HZ := hideit HZ
  replace HB := hideit HB
  go_enter Tryz.func83, Tryz.ntmps83
  go_upto_region 2 with (first | (go_at_call 97; refine (hco.out _).mono ?_; rintro e w2 ⟨rfl, hw2⟩; obtain ⟨d, hd⟩ : ∃ d, d = w2.heap.size := ⟨_, rfl⟩; have HN : RowAt d 64 (wv fun _ => 0#32) (w2.alloc (.cells (row 64 (wv fun _ => 0#32)).toArray 149)) := (by rw [hd]; exact RowAt.new w2 64 (wv fun _ => 0#32) 149); replace HN := hideit HN; have H2 := hideit hw2; clear hw2) | (rw [← hd]; refine wpList_store_mid rfl 149 (.tmp 5) (.tmp 18) rfl _ 0 (row 64 (wv K)).toArray rfl rfl (by rw [row_size]; exact HN.out.there) (by rw [row_size]; exact info42) (row_one fun _ _ => rfl) ?_))
  have HX : RBAt w.heap.size d w s p K (gR p 0) (((w2.alloc (.cells (row 64 (wv fun _ => 0#32)).toArray 149)).setCells d 0 (row 64 (wv K))).alloc (.cells (row 64 (wv fun _ => 0#32)).toArray 149)) ∧ ((w2.alloc (.cells (row 64 (wv fun _ => 0#32)).toArray 149)).setCells d 0 (row 64 (wv K))).heap.size = d + 1 := by
    have h2 := H2.out
    have hs : w.heap.size + 1 + 1 + 1 ≤ w2.heap.size := by have := h2.size; simpa using this
    have hB2 : Below w.heap.size w w2 := Below.trans HB.out (Below.mono h2 (by simp; omega))
    have hB3 : Below w.heap.size w ((w2.alloc (.cells (row 64 (wv fun _ => 0#32)).toArray 149)).setCells d 0 (row 64 (wv K))) := below_setCells _ (by omega) _ _ _ (hB2.alloc (by omega) _)
    have hsz : ((w2.alloc (.cells (row 64 (wv fun _ => 0#32)).toArray 149)).setCells d 0 (row 64 (wv K))).heap.size = d + 1 := by rw [size_setCells]; simp [hd]
    refine ⟨⟨(((HA.out.carry h2).alloc _).cellsOther (by omega) _ _).alloc _, (((HP.out.carry h2).alloc _).cellsOther (by omega) _ _).alloc _, (((HZ.out.carry h2).alloc _).cellsOther (by omega) _ _).alloc _, HN.out.cells.alloc _, ?_, hB3.alloc (by omega) _, by omega⟩, hsz⟩
    have := RowAt.new ((w2.alloc (.cells (row 64 (wv fun _ => 0#32)).toArray 149)).setCells d 0 (row 64 (wv K))) 64 (wv fun _ => 0#32) 149
    rw [hsz] at this
    exact this.congr fun j _ => by simp only [wv, gR]; rw [if_neg (by omega)]
  obtain ⟨HX, hsz⟩ := HX
  replace HX := hideit HX
  clear HA HP HZ HB HN H2 hd hco
  generalize (w2.alloc (.cells (row 64 (wv fun _ => 0#32)).toArray 149)).setCells d 0 (row 64 (wv K)) = X at *
  simp only [Act.put]
  go_upto_region 3 with (fail)
  clear hsz
  generalize X.alloc (.cells (row 64 (wv fun _ => 0#32)).toArray 149) = X1 at *
  go_wp2
  go_loopw [7] (fun i wr => ∃ n : Nat, n ≤ 16 ∧ i = .int .i64 n ∧ RBAt w.heap.size d w s p K (gR p n) wr) (fun i _ => 16 - (intOf i).toNat)
  case atStart => exact ⟨0, by omega, rfl, HX.out⟩
  case round =>
    clear HX
    obtain ⟨n, hn, rfl, hT⟩ := hrel
    have HT := hideit hT
    by_cases hlt : n < 16
    · have e0 := hT.2.1.kept (4 * n) (by omega)
      have e1 := hT.2.1.kept (4 * n + 1) (by omega)
      have e2 := hT.2.1.kept (4 * n + 2) (by omega)
      have e3 := hT.2.1.kept (4 * n + 3) (by omega)
      simp only [yv] at e0 e1 e2 e3
      clear hT
      have b0 := (p (4 * n)).isLt
      have b1 := (p (4 * n + 1)).isLt
      have b2 := (p (4 * n + 2)).isLt
      have b3 := (p (4 * n + 3)).isLt
      have i0 : (0 : Int) ≤ (n : Int) := by omega
      have i1 : (n : Int) < 16 := by omega
      have f4 := or4_fact (p (4 * n)) (p (4 * n + 1)) (p (4 * n + 2)) (p (4 * n + 3))
      go_wp2
      have hne := kept_ne wr.drew
      refine wp_region_late 31 (by kernel_rfl) (by kernel_rfl) (by decide) ?_
      simp only [List.take_succ_cons, List.take_zero, List.drop_succ_cons, List.drop_zero]
      refine wpStrong_run 31 rfl ?_
      simp only [List.take_succ_cons, List.take_zero, List.drop_succ_cons, List.drop_zero]
      repeat (go_big_quiet_step (fail))
      refine wpQuiet_nil ?_
      refine wpStrong_nil ?_
      intro Y hY
      have HY := hideit (HT.out.drew.ext hY)
      clear e0 e1 e2 e3 hne hY HT
      have e5 := HY.out.2.2.2.2.1.1 n (by omega)
      have g5 := HY.out.2.2.2.2.1.2.1 n (by omega)
      go_wp2
      have HI := hideit (HY.out.set n (or4 (p (4 * n)) (p (4 * n + 1)) (p (4 * n + 2)) (p (4 * n + 3))) (gR p (n + 1)) fun j _ => by
        rw [or4_w0]
        unfold gR
        by_cases e : j = n
        · subst e; rw [if_pos rfl, if_pos (by omega)]
        · rw [if_neg e]
          by_cases h : j < n
          · rw [if_pos h, if_pos (by omega)]
          · rw [if_neg h, if_neg (by omega)])
      go_roundw
      case rel =>
        first | exact ⟨(n + 1 : Nat), by omega, by go_num, HI.out⟩ | ((repeat apply Exists.intro); exact ⟨⟨n + 1, by omega, by go_num, HI.out⟩, rfl⟩)
      case measure => simp [intOf]; omega
    · obtain rfl : n = 16 := by omega
      have HT : RBAt w.heap.size d w s p K (wK p 0) wr := hT
      replace HT := hideit HT
      clear hT
      go_wp2
      go_loopw [8] (fun i wr => ∃ n : Nat, 16 ≤ n ∧ n ≤ 64 ∧ i = .int .i64 (n : Int) ∧ RBAt w.heap.size d w s p K (wK p (n - 16)) wr) (fun i _ => 64 - (intOf i).toNat)
      case atStart => exact ⟨16, by omega, by omega, rfl, HT.out⟩
      case round =>
        clear HT
        obtain ⟨n, hn0, hn, rfl, hT⟩ := hrel
        have HT := hideit hT
        by_cases hlt : n < 64
        · have e1 := hT.2.2.2.2.1.1 (n - 15) (by omega)
          have e2 := hT.2.2.2.2.1.1 (n - 2) (by omega)
          clear hT
          simp only [wv] at e1 e2
          have i0 : (16 : Int) ≤ (n : Int) := by omega
          have i1 : (n : Int) < 64 := by omega
          go_wp2
          go_quiet (fail)
          have HD := hideit (HT.out.ext (ext_drewN _ nq))
          clear HT e1 e2
          generalize wr.drewN nq = X at *
          obtain ⟨x, hx⟩ : ∃ x, x = wK p (n - 16) (n - 15) := ⟨_, rfl⟩
          obtain ⟨y, hy⟩ : ∃ y, y = wK p (n - 16) (n - 2) := ⟨_, rfl⟩
          rw [← hx, ← hy]
          have fx := xW_fact
          have fs := sW_fact
          have f3 := hR3
          have f10 := hR10
          have HX := hideit hx
          have HYy := hideit hy
          clear hx hy
          go_upto_region 11 with (fail)
          have e3 := HD.out.2.2.2.2.1.kept (n - 16) (by omega)
          have e4 := HD.out.2.2.2.2.1.kept (n - 7) (by omega)
          simp only [wv] at e3 e4
          have hne := kept_ne X.drew
          refine wp_region_late 29 (by kernel_rfl) (by kernel_rfl) (by decide) ?_
          simp only [List.take_succ_cons, List.take_zero, List.drop_succ_cons, List.drop_zero]
          refine wpStrong_run 6 rfl ?_
          simp only [List.take_succ_cons, List.take_zero, List.drop_succ_cons, List.drop_zero]
          repeat (go_big_quiet_step (fail))
          refine wpQuiet_nil ?_
          refine wpStrong_call rfl (fun X => by simp [go_sem]) (fun X hX => turn7 x X) ?_
          simp only [zp0, zp1, zp2, zp3]
          refine wpStrong_run 1 rfl ?_
          simp only [List.take_succ_cons, List.take_zero, List.drop_succ_cons, List.drop_zero]
          repeat (go_big_quiet_step (fail))
          refine wpQuiet_nil ?_
          refine wpStrong_call rfl (fun X => by simp [go_sem]) (fun X hX => turn18 x X) ?_
          simp only [zp0, zp1, zp2, zp3]
          refine wpStrong_run 11 rfl ?_
          simp only [List.take_succ_cons, List.take_zero, List.drop_succ_cons, List.drop_zero]
          repeat (go_big_quiet_step (fail))
          refine wpQuiet_nil ?_
          refine wpStrong_call rfl (fun X => by simp [go_sem]) (fun X hX => turn17 y X) ?_
          simp only [zp0, zp1, zp2, zp3]
          refine wpStrong_run 1 rfl ?_
          simp only [List.take_succ_cons, List.take_zero, List.drop_succ_cons, List.drop_zero]
          repeat (go_big_quiet_step (fail))
          refine wpQuiet_nil ?_
          refine wpStrong_call rfl (fun X => by simp [go_sem]) (fun X hX => turn19 y X) ?_
          simp only [zp0, zp1, zp2, zp3]
          refine wpStrong_run 6 rfl ?_
          simp only [List.take_succ_cons, List.take_zero, List.drop_succ_cons, List.drop_zero]
          repeat (go_big_quiet_step (fail))
          refine wpQuiet_nil ?_
          refine wpStrong_nil ?_
          intro Y hY
          have HY := hideit (HD.out.drew.ext hY)
          clear e3 e4 hne hY HD
          have e5 := HY.out.2.2.2.2.1.1 n (by omega)
          have g5 := HY.out.2.2.2.2.1.2.1 n (by omega)
          go_wp2
          have HI : RBAt w.heap.size d w s p K (wK p (n + 1 - 16)) (Y.setCell ⟨d + 1, n, none⟩ (.int .u32 ((sW (sW (sW (wK p (n - 16) (n - 16)) (nearW x)) (wK p (n - 16) (n - 7))) (farW y)).toNat : Int))) := by
            refine HY.out.set n _ _ fun j _ => ?_
            rw [show n + 1 - 16 = (n - 16) + 1 by omega]
            simp only [wK, show 16 + (n - 16) = n by omega, nextW]
            rw [HX.out, HYy.out]
          replace HI := hideit HI
          go_roundw
          case rel =>
            first | exact ⟨(n + 1 : Nat), by omega, by omega, by go_num, HI.out⟩ | ((repeat apply Exists.intro); exact ⟨⟨n + 1, by omega, by omega, by go_num, HI.out⟩, rfl⟩)
          case measure => simp [intOf]; omega
        · obtain rfl : n = 64 := by omega
          obtain ⟨W, hW⟩ : ∃ W, W = wordsW p := ⟨_, rfl⟩
          have HT2 : RBAt w.heap.size d w s p K W wr := by rw [hW]; exact hT
          replace HT2 := hideit HT2
          replace hW := hideit hW
          clear hT HT
          go_upto_region 13 with (first | (refine wpList_load_mid rfl 141 (.tmp 2) rfl _ 0 rfl (row 8 (wv s)) _ HT2.out.1.range Tryz.underlying141 rfl (by rw [row_length]; exact info28) ?_; obtain ⟨e, he⟩ : ∃ e, e = wr.heap.size := ⟨_, rfl⟩; have HN : RowAt e 8 (wv fun _ => 0#32) (wr.alloc (.cells (row 8 (wv fun _ => 0#32)).toArray 141)) := (by rw [he]; exact RowAt.new wr 8 (wv fun _ => 0#32) 141); replace HN := hideit HN) | (rw [← he]; refine wpList_store_mid rfl 141 (.tmp 11) (.tmp 95) rfl _ 0 (row 8 (wv s)).toArray rfl rfl (by rw [row_size]; exact HN.out.there) (by rw [row_size]; exact info28) (row_one fun _ _ => rfl) ?_))
          have HX : RBAt w.heap.size d w s p K W ((wr.alloc (.cells (row 8 (wv fun _ => 0#32)).toArray 141)).setCells e 0 (row 8 (wv s))) ∧ RowAt e 8 (wv (rndK W s 0)) ((wr.alloc (.cells (row 8 (wv fun _ => 0#32)).toArray 141)).setCells e 0 (row 8 (wv s))) ∧ d + 1 < e := by
            obtain ⟨h1, h2, h3, h4, h5, h6, h7⟩ := HT2.out
            have hse : d + 1 < e := by have := h5.2.2; omega
            exact ⟨⟨(h1.alloc _).cellsOther (by omega) _ _, (h2.alloc _).cellsOther (by omega) _ _, (h3.alloc _).cellsOther (by omega) _ _, (h4.alloc _).cellsOther (by omega) _ _, (h5.alloc _).cellsOther (by omega) _ _, below_setCells _ (by omega) _ _ _ (h6.alloc (by omega) _), h7⟩, HN.out.cells, hse⟩
          obtain ⟨HX, HE, hse⟩ := HX
          replace HX := hideit HX
          replace HE := hideit HE
          clear HT2 HN he hz hz8
          generalize (wr.alloc (.cells (row 8 (wv fun _ => 0#32)).toArray 141)).setCells e 0 (row 8 (wv s)) = X2 at *
          simp only [Act.put]
          go_wp2
          go_loopw [12] (fun i wr => ∃ n : Nat, n ≤ 64 ∧ i = .int .i64 n ∧ RBAt w.heap.size d w s p K W wr ∧ RowAt e 8 (wv (rndK W s n)) wr) (fun i _ => 64 - (intOf i).toNat)
          case atStart => exact ⟨0, by omega, rfl, HX.out, HE.out⟩
          case round =>
            clear HX HE
            obtain ⟨n, hn, rfl, hT, hE⟩ := hrel
            have HT := hideit hT
            by_cases hlt : n < 64
            · have HS : Hid (∀ j, rndK W s (n + 1) j = rnd (K n) (W n) (rndK W s n) j) := fun _ => by rw [hK.out]; rfl
              generalize rndK W s n = q at *
              have HE := hideit hE
              have e0 := hE.1 0 (by omega)
              have e4 := hE.1 4 (by omega)
              clear hT hE
              simp only [wv] at e0 e4
              have i0 : (0 : Int) ≤ (n : Int) := by omega
              have i1 : (n : Int) < 64 := by omega
              have fx := xW_fact
              have fs := sW_fact
              have fa := aW_fact
              have fn := nW_fact
              have fch := xor_ch (q 4) (q 5) (q 6)
              have fmj := xor_maj (q 0) (q 1) (q 2)
              go_wp2
              go_quiet (fail)
              have HY := hideit (HT.out.ext (ext_drewN _ nq))
              have HF := hideit (HE.out.carry (ext_drewN _ nq))
              clear HT HE e0 e4
              generalize wr.drewN nq = Y at *
              have e7 := HF.out.kept 7 (by omega)
              have e5 := HF.out.kept 5 (by omega)
              have e6 := HF.out.kept 6 (by omega)
              have ek := HY.out.2.2.2.1.kept n hlt
              have ew := HY.out.2.2.2.2.1.kept n hlt
              simp only [wv] at e7 e5 e6 ek ew
              go_upto_region 17 with (fail)
              have hne := kept_ne Y.drew
              refine wp_region_kept (Ok := Ext Y.drew) (by kernel_rfl) (by kernel_rfl) (Ext.refl _) ?_
              repeat (go_big_quiet_step ((rename_i q; first | (go_at_call_of 98 (Value.int IntKind.i64 6); exact (turn6 _ q.w).mono fun e w'' h => ⟨h.1, ⟨⟨w'', Ext.trans q.ok h.2⟩, rfl⟩⟩) | (go_at_call_of 98 (Value.int IntKind.i64 11); exact (turn11 _ q.w).mono fun e w'' h => ⟨h.1, ⟨⟨w'', Ext.trans q.ok h.2⟩, rfl⟩⟩) | (go_at_call_of 98 (Value.int IntKind.i64 25); exact (turn25 _ q.w).mono fun e w'' h => ⟨h.1, ⟨⟨w'', Ext.trans q.ok h.2⟩, rfl⟩⟩))))
              refine wpQuiet_nil ?_
              intro _ hw'
              obtain ⟨Z, hZ⟩ := hw'
              subst hZ
              have HY2 := hideit (HY.out.drew.ext Z.ok)
              have HF2 := hideit (HF.out.drew.carry Z.ok)
              clear HY HF e7 e5 e6 ek ew hne
              generalize Z.w = Y2 at *
              clear Z
              rename_i Y_
              have e1 := HF2.out.kept 1 (by omega)
              have e2 := HF2.out.kept 2 (by omega)
              simp only [wv] at e1 e2
              go_upto_region 18 with (fail)
              have hne := kept_ne Y2.drew
              refine wp_region_kept (Ok := Ext Y2.drew) (by kernel_rfl) (by kernel_rfl) (Ext.refl _) ?_
              repeat (go_big_quiet_step ((rename_i q; first | (go_at_call_of 98 (Value.int IntKind.i64 2); exact (turn2 _ q.w).mono fun e w'' h => ⟨h.1, ⟨⟨w'', Ext.trans q.ok h.2⟩, rfl⟩⟩) | (go_at_call_of 98 (Value.int IntKind.i64 13); exact (turn13 _ q.w).mono fun e w'' h => ⟨h.1, ⟨⟨w'', Ext.trans q.ok h.2⟩, rfl⟩⟩) | (go_at_call_of 98 (Value.int IntKind.i64 22); exact (turn22 _ q.w).mono fun e w'' h => ⟨h.1, ⟨⟨w'', Ext.trans q.ok h.2⟩, rfl⟩⟩))))
              refine wpQuiet_nil ?_
              intro _ hw'
              obtain ⟨Z, hZ⟩ := hw'
              subst hZ
              have HY3 := hideit (HY2.out.drew.ext Z.ok)
              have HF3 := hideit (HF2.out.drew.carry Z.ok)
              clear HY2 HF2 e1 e2 hne
              generalize Z.w = Y3 at *
              clear Z
              obtain ⟨g, hg⟩ : ∃ g, g = rnd (K n) (W n) q := ⟨_, rfl⟩
              obtain ⟨o1, ho1⟩ : ∃ o1, o1 = oneW (q 4) (q 5) (q 6) (q 7) (K n) (W n) := ⟨_, rfl⟩
              obtain ⟨o2, ho2⟩ : ∃ o2, o2 = twoW (q 0) (q 1) (q 2) := ⟨_, rfl⟩
              rw [fs, fs, show sW (sW (sW (sW (q 7) (xW (xW (rR 6 (q 4)) (rR 11 (q 4))) (rR 25 (q 4)))) (oW (aW (q 4) (q 5)) (aW (nW (q 4)) (q 6)))) (K n)) (W n) = o1 by rw [ho1]; rfl, show sW (xW (xW (rR 2 (q 0)) (rR 13 (q 0))) (rR 22 (q 0))) (oW (oW (aW (q 0) (q 1)) (aW (q 0) (q 2))) (aW (q 1) (q 2))) = o2 by rw [ho2]; rfl]
              have hg2 : Value.agg (row 8 (wv g)).toArray = .agg #[.int .u32 (((o1.toNat : Int) + (o2.toNat : Int)) % 4294967296), .int .u32 ((q 0).toNat : Int), .int .u32 ((q 1).toNat : Int), .int .u32 ((q 2).toNat : Int), .int .u32 ((((q 3).toNat : Int) + (o1.toNat : Int)) % 4294967296), .int .u32 ((q 4).toNat : Int), .int .u32 ((q 5).toNat : Int), .int .u32 ((q 6).toNat : Int)] := by rw [fs, fs, hg, ho1, ho2]; rfl
              clear ho1 ho2 fs fx fa fn fch fmj
              have e0 := HF3.out.1 0 (by omega)
              have f0 := HF3.out.2.1 0 (by omega)
              have e1 := HF3.out.1 1 (by omega)
              have f1 := HF3.out.2.1 1 (by omega)
              have e2 := HF3.out.1 2 (by omega)
              have f2 := HF3.out.2.1 2 (by omega)
              have e3 := HF3.out.1 3 (by omega)
              have f3 := HF3.out.2.1 3 (by omega)
              have e4 := HF3.out.1 4 (by omega)
              have f4 := HF3.out.2.1 4 (by omega)
              have e5 := HF3.out.1 5 (by omega)
              have f5 := HF3.out.2.1 5 (by omega)
              have e6 := HF3.out.1 6 (by omega)
              have f6 := HF3.out.2.1 6 (by omega)
              have e7 := HF3.out.1 7 (by omega)
              have f7 := HF3.out.2.1 7 (by omega)
              simp only [wv] at e0 e1 e2 e3 e4 e5 e6 e7
              replace hg2 := hideit hg2
              replace hg := hideit hg
              have hg3 := congrArg (fun v : Value => v.cells.toList) hg2.out
              simp only [Value.cells] at hg3
              replace hg3 := hideit hg3
              clear hg2
              go_wp2
              have HI : RBAt w.heap.size d w s p K W (Y3.setCells e 0 (row 8 (wv g))) ∧ RowAt e 8 (wv (rndK W s (n + 1))) (Y3.setCells e 0 (row 8 (wv g))) := by
                obtain ⟨h1, h2, h3, h4, h5, h6, h7⟩ := HY3.out
                refine ⟨⟨h1.cellsOther (by omega) _ _, h2.cellsOther (by omega) _ _, h3.cellsOther (by omega) _ _, h4.cellsOther (by omega) _ _, h5.cellsOther (by omega) _ _, below_setCells _ (by omega) _ _ _ h6, h7⟩, (HF3.out.cells (g' := wv g)).congr fun j _ => ?_⟩
                simp only [wv, HS.out, hg.out]
              rw [hg3.out] at HI
              obtain ⟨HI, HJ⟩ := HI
              simp only [World.setCells] at HI HJ
              replace HI := hideit HI
              replace HJ := hideit HJ
              go_roundw
              case rel =>
                first | exact ⟨(n + 1 : Nat), by omega, by go_num, HI.out, HJ.out⟩ | ((repeat apply Exists.intro); exact ⟨⟨n + 1, by omega, by go_num, HI.out, HJ.out⟩, rfl⟩)
              case measure => simp [intOf]; omega
            · obtain rfl : n = 64 := by omega
              have HQ : Hid (∀ j, R j = sW (s j) (rndK W s 64 j)) := fun j => by rw [hR.out, hW.out]; rfl
              clear hR HT
              obtain ⟨q, hq⟩ : ∃ q, q = rndK W s 64 := ⟨_, rfl⟩
              rw [← hq] at HQ hE
              clear hq
              have HT : RBAt w.heap.size d w s p K W wr ∧ RowAt e 8 (wv fun j => if j < 0 then R j else q j) wr := ⟨hT, hE.congr fun j _ => by simp only [wv]; rw [if_neg (by omega)]⟩
              replace HT := hideit HT
              clear hT hE
              go_wp2
              go_loopw [17] (fun i wr => ∃ n : Nat, n ≤ 8 ∧ i = .int .i64 n ∧ RBAt w.heap.size d w s p K W wr ∧ RowAt e 8 (wv fun j => if j < n then R j else q j) wr) (fun i _ => 8 - (intOf i).toNat)
              case atStart => exact ⟨0, by omega, rfl, HT.out⟩
              case round =>
                clear HT
                obtain ⟨n, hn, rfl, hT, hE⟩ := hrel
                have HT := hideit hT
                have HE := hideit hE
                by_cases hlt : n < 8
                · have e1 := hE.kept n hlt
                  have e2 := hT.1.kept n hlt
                  simp only [wv, if_neg (Nat.lt_irrefl n)] at e1 e2
                  clear hT hE
                  have i0 : (0 : Int) ≤ (n : Int) := by omega
                  have i1 : (n : Int) < 8 := by omega
                  have fs := sW_fact
                  go_wp2
                  have hne := kept_ne wr.drew
                  refine wp_region_late 9 (by kernel_rfl) (by kernel_rfl) (by decide) ?_
                  simp only [List.take_succ_cons, List.take_zero, List.drop_succ_cons, List.drop_zero]
                  refine wpStrong_run 9 rfl ?_
                  simp only [List.take_succ_cons, List.take_zero, List.drop_succ_cons, List.drop_zero]
                  repeat (go_big_quiet_step (fail))
                  refine wpQuiet_nil ?_
                  refine wpStrong_nil ?_
                  intro Y hY
                  have HY := hideit (HT.out.drew.ext hY)
                  have HF := hideit (HE.out.drew.carry hY)
                  clear e1 e2 hne hY HT HE
                  have e5 := HF.out.1 n hlt
                  have g5 := HF.out.2.1 n hlt
                  go_wp2
                  have HI : RBAt w.heap.size d w s p K W (Y.setCell ⟨e, n, none⟩ (.int .u32 ((sW (q n) (s n)).toNat : Int))) ∧ RowAt e 8 (wv fun j => if j < n + 1 then R j else q j) (Y.setCell ⟨e, n, none⟩ (.int .u32 ((sW (q n) (s n)).toNat : Int))) := by
                    obtain ⟨h1, h2, h3, h4, h5, h6, h7⟩ := HY.out
                    refine ⟨⟨h1.other _ _ (by show e ≠ _; omega), h2.other _ _ (by show e ≠ _; omega), h3.other _ _ (by show e ≠ _; omega), h4.other _ _ (by show e ≠ _; omega), h5.other _ _ (by show e ≠ _; omega), h6.setCell (by show _ ≤ e; omega) _, h7⟩, (HF.out.set n _).congr fun j _ => ?_⟩
                    simp only [wv]
                    by_cases h : j = n
                    · subst h; rw [if_pos rfl, if_pos (by omega), HQ.out, sW_comm]
                    · rw [if_neg h]
                      by_cases h' : j < n
                      · rw [if_pos h', if_pos (by omega)]
                      · rw [if_neg h', if_neg (by omega)]
                  obtain ⟨HI, HJ⟩ := HI
                  replace HI := hideit HI
                  replace HJ := hideit HJ
                  go_roundw
                  case rel =>
                    first | exact ⟨(n + 1 : Nat), by omega, by go_num, HI.out, HJ.out⟩ | ((repeat apply Exists.intro); exact ⟨⟨n + 1, by omega, by go_num, HI.out, HJ.out⟩, rfl⟩)
                  case measure => simp [intOf]; omega
                · obtain rfl : n = 8 := by omega
                  have HR := hideit (hE.congr (g' := wv R) fun j hj => by simp only [wv]; rw [if_pos hj])
                  have HR0 := hideit hT.2.2.1
                  have hB := hideit hT.2.2.2.2.2.1
                  clear hT HT hE HE
                  go_wp2_with (first | (refine wpList_load_mid rfl 141 (.tmp 11) rfl _ 0 rfl (row 8 (wv R)) _ HR.out.range Tryz.underlying141 rfl (by rw [row_length]; exact info28) ?_) | (refine wpList_store_mid rfl 141 (.tmp 4) (.tmp 189) rfl _ 0 (row 8 (wv R)).toArray rfl rfl (by rw [row_size]; exact HR0.out.there) (by rw [row_size]; exact info28) (row_one fun _ _ => rfl) ?_))
                  exact bodyPost_ret (ret_row Tryz.results83 rfl (HR0.out.cells (g' := wv R)) Tryz.underlying141 rfl info28) rfl ⟨rfl, below_setCells _ (by omega) _ _ _ hB.out⟩
end Go.Proofs.YtfpfgbhdehbggaaGreatDoor
