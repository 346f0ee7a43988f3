/-
  Slices of integers that a call has made for itself: how they grow by append, how they lie; no word of the program. Units enciphered: the small functions.
-/
import Derived.Test.YtkoodgfadedeoaaQ14
import Derived.Laws.AppendOwn
import Derived.Laws.AppendOwnNone
import Derived.Test.YtkoodgfadedeoaaQ6
import Derived.Test.YtkoodgfadedeoaaQ10
import Derived.Test.YtkoodgfadedeoaaQ12
import Derived.Deep.CutRange
import Derived.Deep.RegionWith
namespace Go.Proofs.Ytkoodgfadedeoaa
open Go.RowKit Go.BigFrame
theorem RowAt.grown {b n : Nat} {g : Nat → Value} {w w' : World} {row : Option Nat} (h : RowAt b n g w) (hg : w.grownBy w' row) (hne : some b ≠ row) : RowAt b n g w' :=
  ⟨fun j hj => (World.cell?_of_block (a := ⟨b, j, none⟩) (hg.block b h.2.2 hne)).trans (h.1 j hj), fun j hj => (World.frozen?_of_block (a := ⟨b, j, none⟩) (hg.block b h.2.2 hne)).trans (h.2.1 j hj), Nat.lt_of_lt_of_le h.2.2 hg.size⟩
theorem below_grown {B : Nat} {w w' : World} {row : Option Nat} (hB : B ≤ w.heap.size) (hg : w.grownBy w' row) (hr : ∀ k, row = some k → B ≤ k) : Below B w w' :=
  ⟨hg.os, hg.tape, hg.output, hg.size, fun k hk => hg.block k (by omega) (fun e => by have := hr k e.symm; omega)⟩
theorem row_append (m n : Nat) (f g h : Nat → Value) (h1 : ∀ j, j < m → f j = h j) (h2 : ∀ j, j < n → g j = h (m + j)) : row m f ++ row n g = row (m + n) h := by
  apply List.ext_getElem?
  intro i
  rw [List.getElem?_append, row_length]
  by_cases hi : i < m
  · rw [if_pos hi, row_get m f i hi, row_get (m + n) h i (by omega), h1 i hi]
  · rw [if_neg hi]
    by_cases hi2 : i < m + n
    · rw [row_get n g (i - m) (by omega), row_get (m + n) h i hi2, h2 (i - m) (by omega), show m + (i - m) = i by omega]
    · rw [List.getElem?_eq_none (by rw [row_length]; omega), List.getElem?_eq_none (by rw [row_length]; omega)]
/-- a slice of the call's own: n cells told by g, in a block at or behind base -/
def OwnB (base : Nat) (e : TypeId) (v : Value) (n : Nat) (g : Nat → Value) (w : World) : Prop := w.ownsRow base e 1 v n (row n g)
section
variable {base : Nat} {e : TypeId} {v : Value} {n : Nat} {g g' : Nat → Value} {w w' : World}
theorem OwnB.congr (h : OwnB base e v n g w) (hg : ∀ j, j < n → g j = g' j) : OwnB base e v n g' w := by
  unfold OwnB at h ⊢
  rw [← row_ext hg]
  exact h
theorem OwnB.kept {row : Option Nat} (h : OwnB base e v n g w) (hg : w.grownBy w' row) (hne : v.ownBlock = none ∨ v.ownBlock ≠ row) : OwnB base e v n g w' := World.ownsRow.kept h hg hne
theorem OwnB.alloc (h : OwnB base e v n g w) (o : Obj) : OwnB base e v n g (w.alloc o) := World.ownsRow.alloc h o
theorem OwnB.ext (h : OwnB base e v n g w) (k : Ext w w') : OwnB base e v n g w' :=
  World.ownsRow.kept (row := none) h ⟨Below.os k, Below.tape k, Below.output k, Below.size k, fun i hi _ => Below.block k i hi⟩ (by cases v.ownBlock <;> simp)
theorem OwnB.but {c : Nat} (h : OwnB base e v n g w) (k : But c w w') (hc : v.ownBlock ≠ some c) : OwnB base e v n g w' := World.ownsRow.kept h k (.inr hc)
theorem OwnB.lt (h : OwnB base e v n g w) : ∀ k, v.ownBlock = some k → base ≤ k ∧ k < w.heap.size := World.ownsRow.lt h
/-- where it lies -/
theorem OwnB.lies (h : OwnB base e v n g w) (hn : 0 < n) : ∃ b cap, v = .slice (some ⟨b, 0, none⟩) n cap ∧ base ≤ b ∧ n ≤ cap ∧ cap ≤ maxLen ∧ RowAt b n g w := by
  have h0 := h
  rcases h.2 with ⟨_, h2⟩ | ⟨b, cap, cur, rfl, hb, hg, hc, hm, _, ht⟩
  · omega
  · refine ⟨b, cap, rfl, hb, hc, hm, fun j hj => ?_, fun j hj => ?_, (Array.getElem?_eq_some_iff.1 hg).1⟩
    · have h1 := World.ownsRow.cells h0 (g := b) rfl j (g j) (row_get n g j hj)
      have hadd : (⟨b, 0, none⟩ : Addr).add j = ⟨b, j, none⟩ := by unfold Addr.add; split <;> simp_all
      rwa [hadd] at h1
    · simp [World.frozen?, hg]
/-- an empty one, just made -/
theorem own_empty (w : World) (base : Nat) (e : TypeId) (g : Nat → Value) (hb : base ≤ w.heap.size) : OwnB base e (.slice (some ⟨w.heap.size, 0, none⟩) 0 0) 0 g (w.alloc (.cells #[] e)) :=
  World.ownsRow_made w #[] 0 hb (Nat.zero_le _) (by simp)
theorem own_nil (w : World) (base : Nat) (e : TypeId) (g : Nat → Value) : OwnB base e (.slice none 0 0) 0 g w := World.ownsRow_nil w base e 1
/-- facts on the element's type -/
structure ElemIs (P : Program) (t e : TypeId) : Prop where
  slice : P.underlying t = some (.slice e)
  info : ∃ i z, P.info? e = some i ∧ i.zero = some z ∧ i.size = 1 ∧ i.bytes = 1 ∧ z.cells.size = 1
/-- append of cells that lie somewhere -/
theorem wpList_grow {P : Program} {ops : Array Oper} {rest : List Oper} {o : Oper} {a : Act} {Q : Exit → Act → World → Prop} {t : TypeId} (E : ElemIs P t e) (hgd : o.guard = none) (s x : Operand)
    (ho : o.op = .call { callee := .builtin .append, args := #[s, x], argTypes := #[t, t] }) (hs : a.eval s = v) (hown : OwnB base e v n g w)
    (ad : Addr) (m c : Nat) (u f : Nat → Value) (hx : a.eval x = .slice (some ad) m c) (hl : LieAt ad m u w) (h1 : ∀ j, j < m → (u j).oneCell' = true) (hf1 : ∀ j, j < n → g j = f j) (hf2 : ∀ j, j < m → u j = f (n + j))
    (hbytes : n + m ≤ 140737488355328) (hbase : base ≤ w.heap.size)
    (h : ∀ v' w', OwnB base e v' (n + m) f w' → w.grownBy w' v.ownBlock → wpList P ops Q rest (a.put o.dst v') w') : wpList P ops Q (o :: rest) a w := by
  obtain ⟨i, z, e1, e2, e3, e4, e5⟩ := E.info
  refine wpList_append_own w hgd s x t ho base e i z 1 1 E.slice e1 e2 e3 e4 e5 (by decide) v n (row n g) hs hown ad m c (row m u) hx (by rw [row_length]; omega) (fun j w0 hj => ?_) (fun w0 hw0 => ?_) (by unfold maxLen; omega) (by omega) hbase fun v' w' h2 h3 _ => h v' w' ?_ h3
  · obtain ⟨hj', rfl⟩ := row_some hj
    exact hl.1 j hj'
  · obtain ⟨j, hj, rfl⟩ := List.mem_map.1 hw0
    exact h1 j (by simpa using hj)
  · unfold OwnB
    rwa [row_append n m g u f hf1 hf2] at h2
theorem wpList_grow_none {P : Program} {ops : Array Oper} {rest : List Oper} {o : Oper} {a : Act} {Q : Exit → Act → World → Prop} {t : TypeId} (E : ElemIs P t e) (hgd : o.guard = none) (s x : Operand)
    (ho : o.op = .call { callee := .builtin .append, args := #[s, x], argTypes := #[t, t] }) (hs : a.eval s = v) (hown : OwnB base e v n g w) (hx : a.eval x = .slice none 0 0)
    (h : wpList P ops Q rest (a.put o.dst v) w) : wpList P ops Q (o :: rest) a w := by
  obtain ⟨i, z, e1, e2, e3, e4, e5⟩ := E.info
  exact wpList_append_own_none hgd s x t ho base e i 1 E.slice e1 v n (row n g) hs hown hx h
end
theorem elem_is {P : Program} {t e : TypeId} (hs : P.underlying t = some (.slice e)) (h1 : (P.info? e).map (·.size) = some 1) (h2 : (P.info? e).map (·.bytes) = some 1) (h3 : ((P.info? e).bind (·.zero)).map (·.cells.size) = some 1) : ElemIs P t e := by
  refine ⟨hs, ?_⟩
  cases hi : P.info? e with
  | none => rw [hi] at h1; cases h1
  | some i =>
    rw [hi] at h1 h2 h3
    simp only [Option.map_some, Option.some.injEq, Option.bind_some] at h1 h2 h3
    cases hz : i.zero with
    | none => rw [hz] at h3; cases h3
    | some z =>
      rw [hz] at h3
      simp only [Option.map_some, Option.some.injEq] at h3
      exact ⟨i, z, rfl, hz, h1, h2, h3⟩
/-- cells that lie in a block just made -/
theorem lieNew (w : World) (n : Nat) (C : Array Value) (t : TypeId) (fz : Nat × Nat) (g : Nat → Value) (h : ∀ j, j < n → C[j]? = some (g j)) : LieAt ⟨w.heap.size, 0, none⟩ n g (w.alloc (.cells C t fz)) :=
  ⟨fun j hj => by
    have h1 : (w.alloc (.cells C t fz)).cell? ⟨w.heap.size, j, none⟩ = C[j]? := by
      have h2 : (w.alloc (.cells C t fz)).heap[w.heap.size]? = some (.cells C t fz) := by
        show (w.heap.push (.cells C t fz))[w.heap.size]? = _
        simp
      unfold World.cell?
      rw [h2]
      rfl
    unfold Addr.add
    by_cases e : j = 0
    · subst e
      rw [if_pos rfl, h1]
      exact h 0 hj
    · rw [if_neg e]
      show (w.alloc (.cells C t fz)).cell? ⟨w.heap.size, 0 + j, none⟩ = _
      rw [Nat.zero_add, h1]
      exact h j hj, by simp⟩
end Go.Proofs.Ytkoodgfadedeoaa
namespace Go.Proofs.Ytkoodgfadedeoaa
open Go.RowKit Go.BigFrame
set_option maxRecDepth 20000 in
set_option maxHeartbeats 1000000 in
theorem xadd_any (f k : Nat → BitVec 8) (w : World) :
    Calls Try.prog 57 #[.agg (row 16 (yv f)).toArray, .agg (row 16 (yv k)).toArray] w fun e w' => e = .returned (.agg (row 16 (yv (addF f k))).toArray) ∧ Below w.heap.size w w' := by
  have hz := zero32
  go_enter Try.func57, Try.ntmps57
  go_wp2
  go_loopw [6] (fun i wr => ∃ n : Nat, n ≤ 16 ∧ i = .int .i64 n ∧ AddAt w.heap.size w f k n wr) (fun i _ => 16 - (intOf i).toNat)
  case atStart =>
    refine ⟨0, by omega, rfl, ?_, ?_, ?_, ?_⟩
    · exact (((RowAt.new w 16 (yv f) 23).alloc _).alloc _).congr (fun j _ => by simp [yv])
    · have := (RowAt.new (w.alloc (Obj.cells (row 16 (yv f)).toArray 23)) 16 (yv k) 23).alloc (Obj.cells Y16 23)
      simpa using this
    · have := RowAt.newOf ((w.alloc (Obj.cells (row 16 (yv f)).toArray 23)).alloc (Obj.cells (row 16 (yv k)).toArray 23)) 16 (yv fun _ => 0#8) 23 Y16 (fun j hj => Y16_get j hj _ rfl)
      simpa using this
    · exact (((Below.refl _ _).alloc (Nat.le_refl _) _).alloc (by simp) _).alloc (by simp; omega) _
  case round =>
    obtain ⟨n, hn, rfl, hT⟩ := hrel
    by_cases hlt : n < 16
    · have HT := hideit hT
      obtain ⟨h1, h2, _, _⟩ := hT
      have e1 := h1.1 n hlt
      have e2 := h2.1 n hlt
      have g1 := h1.2.1 n hlt
      simp only [yv, if_neg (Nat.lt_irrefl n)] at e1 e2
      clear h1 h2
      have b1 := (f n).isLt
      have b2 := (k n).isLt
      have o1 : bits .xor .u8 ((f n).toNat : Int) ((k n).toNat : Int) = ((addF f k n).toNat : Int) := xB_fact _ _
      have i0 : (0 : Int) ≤ (n : Int) := by omega
      have i1 : (n : Int) < 16 := by omega
      go_wp2
      go_region
      all_goals (try go_wp2)
      go_roundw
      case rel =>
        first | exact ⟨(n + 1 : Nat), by omega, by go_num, HT.out.step⟩ | ((repeat apply Exists.intro); exact ⟨⟨n + 1, by omega, by go_num, HT.out.step⟩, rfl⟩)
      case measure => simp [intOf]; omega
    · obtain rfl : n = 16 := by omega
      obtain ⟨h1, _, h3, hB⟩ := hT
      have HR := hideit (h1.congr (g' := yv (addF f k)) (fun j hj => by simp [yv, hj]))
      have HR0 := hideit h3
      clear h1 h3
      go_wp2_with (first | (refine wpList_load_mid rfl 23 (.tmp 2) rfl _ 0 rfl (row 16 (yv (addF f k))) _ HR.out.range Try.underlying23 rfl (by rw [row_length]; exact info32) ?_) | (refine wpList_store_mid rfl 23 (.tmp 4) (.tmp 18) rfl _ 0 (row 16 (yv (addF f k))).toArray rfl rfl (by rw [row_size]; exact HR0.out.there) (by rw [row_size]; exact info32) (row_one fun _ _ => rfl) ?_))
      refine bodyPost_ret (v := .agg (row 16 (yv (addF f k))).toArray) ?_ rfl ⟨rfl, below_setCells _ (by omega) _ _ _ hB⟩
      have hl := run_loadVar_mid (P := Try.prog) (wr.setCells (w.heap.size + 1 + 1) 0 (row 16 (yv (addF f k)))) (w.heap.size + 1 + 1) 0 23 (row 16 (yv (addF f k))) _ (HR0.out.cells (g' := yv (addF f k))).range Try.underlying23 rfl (by rw [row_length]; exact info32)
      simp [results, Try.results57, Act.put, asAddr, hl]

set_option maxRecDepth 20000 in
set_option maxHeartbeats 1000000 in
theorem blockOf_any (a : Addr) (l cap : Nat) (b : Nat → BitVec 8) (w : World) (hl : 16 ≤ l) (hB : LieAt a l (yv b) w) :
    Calls Try.prog 58 #[.slice (some a) l cap] w fun e w' => e = .returned (.agg (row 16 (yv b)).toArray) ∧ Below w.heap.size w w' := by
  have hz := store_Y16
  obtain ⟨c, hc⟩ : ∃ c, c = w.heap.size := ⟨_, rfl⟩
  have HR0 : RowAt c 16 (yv fun _ => 0#8) ((w.alloc (.cells (row 16 (yv fun _ => 0#8)).toArray 23)).alloc (.cells (row 16 (yv fun _ => 0#8)).toArray 23)) := by rw [hc]; exact (RowAt.new w 16 (yv fun _ => 0#8) 23).alloc _
  have HR1 : RowAt (c + 1) 16 (yv fun _ => 0#8) ((w.alloc (.cells (row 16 (yv fun _ => 0#8)).toArray 23)).alloc (.cells (row 16 (yv fun _ => 0#8)).toArray 23)) := by
    have := RowAt.new (w.alloc (.cells (row 16 (yv fun _ => 0#8)).toArray 23)) 16 (yv fun _ => 0#8) 23
    rw [hc]; simpa using this
  have HB2 : Below w.heap.size w ((w.alloc (.cells (row 16 (yv fun _ => 0#8)).toArray 23)).alloc (.cells (row 16 (yv fun _ => 0#8)).toArray 23)) := ((Below.refl _ _).alloc (Nat.le_refl _) _).alloc (by simp) _
  have HL := hideit (hB.carry HB2)
  replace HR0 := hideit HR0
  replace HR1 := hideit HR1
  replace HB2 := hideit HB2
  replace hl := hideit hl
  clear hB
  go_enter Try.func58, Try.ntmps58
  go_upto_region 2 with (fail)
  rw [← hc]
  have hcw : w.heap.size ≤ c := by omega
  clear hc
  generalize (w.alloc (.cells (row 16 (yv fun _ => 0#8)).toArray 23)).alloc (.cells (row 16 (yv fun _ => 0#8)).toArray 23) = X at *
  refine wp_region_lit ?_
  refine wpList_run rfl (.slice (some ⟨c + 1, 0, none⟩) 16 16) (by simp [go_sem]) ?_
  simp only [Act.put, List.setIfInBounds_toArray, List.set_cons_zero, List.set_cons_succ]
  refine wpList_run rfl (.slice (some a) l cap) (by simp [go_sem]) ?_
  simp only [Act.put, List.setIfInBounds_toArray, List.set_cons_zero, List.set_cons_succ]
  refine wpList_copy_row rfl (.tmp 4) (.tmp 5) 22 22 rfl 5 Try.underlying22 info5 (c + 1) 16 (yv fun _ => 0#8) HR1.out 0 16 16 a l cap rfl rfl 16 (yv b) (by have := hl.out; exact (Nat.min_eq_right this).symm) (fun j hj => HL.out.1 j (by have := hl.out; omega)) (by omega) (fun _ _ => rfl) ?_
  have HY1 := hideit (RowAt.congr (HR1.out.part 0 16 (yv b) (by omega)) (g' := yv b) fun j hj => by rw [if_pos (by omega), Nat.sub_zero])
  have HY0 := hideit (HR0.out.cellsOther (c := c + 1) (by omega) (row 16 (yv b)) 0)
  have HYB := hideit (below_setCells (c + 1) (by omega) (row 16 (yv b)) 0 _ HB2.out)
  clear HR0 HR1 HB2 HL
  generalize X.setCells (c + 1) 0 (row 16 (yv b)) = Y at *
  simp only [Act.put, List.setIfInBounds_toArray, List.set_cons_zero, List.set_cons_succ]
  go_wp2_with (first | (refine wpList_load_mid rfl 23 (.tmp 3) rfl _ 0 rfl (row 16 (yv b)) _ HY1.out.range Try.underlying23 rfl (by rw [row_length]; exact info32) ?_) | (refine wpList_store_mid rfl 23 (.tmp 2) (.tmp 7) rfl _ 0 (row 16 (yv b)).toArray rfl rfl (by rw [row_size]; exact HY0.out.there) (by rw [row_size]; exact info32) (row_one fun _ _ => rfl) ?_))
  exact bodyPost_ret (ret_row Try.results58 rfl (HY0.out.cells (g' := yv b)) Try.underlying23 rfl info32) rfl ⟨rfl, below_setCells _ hcw _ _ _ HYB.out⟩
/-- what becomes of a block at a place -/
def chF (cF : (Nat → BitVec 8) → Nat → BitVec 8) (t : BitVec 128) (f : Nat → BitVec 8) : Nat → BitVec 8 := addF (cF (addF f (byB t))) (byB t)
set_option maxRecDepth 20000 in
set_option maxHeartbeats 2000000 in
theorem betw_any (g : FuncId) (hg : ∀ args X, (callFunc g args).run Try.prog X = .ok (.enter g args) X) (p : Value) (cF : (Nat → BitVec 8) → Nat → BitVec 8) (t : BitVec 128) (f : Nat → BitVec 8) (b : Nat) (w : World) (hcell : w.cell? ⟨b, 0, none⟩ = some (.func (.func g) #[p] #[]))
    (hci : ∀ X, Ext w X → ∀ f, Calls Try.prog g #[p, .agg (row 16 (yv f)).toArray] X fun e w' => e = .returned (.agg (row 16 (yv (cF f))).toArray) ∧ Below X.heap.size X w') :
    Calls Try.prog 56 #[.agg #[.int .u64 ((lo t).toNat : Int), .int .u64 ((hi t).toNat : Int)], .agg (row 16 (yv f)).toArray, .pointer (some ⟨b, 0, none⟩)] w fun e w' => e = .returned (.agg (row 16 (yv (chF cF t f))).toArray) ∧ Below w.heap.size w w' := by
  have hz := store_Y16
  have hbw : b < w.heap.size := World.block_lt_of_cell? w _ hcell
  obtain ⟨c, hc⟩ : ∃ c, c = w.heap.size := ⟨_, rfl⟩
  obtain ⟨W3, hW3⟩ : ∃ W3, W3 = ((w.alloc (.cells #[.int .u64 ((lo t).toNat : Int), .int .u64 ((hi t).toNat : Int)] 80)).alloc (.cells (row 16 (yv f)).toArray 23)).alloc (.cells (row 16 (yv fun _ => 0#8)).toArray 23) := ⟨_, rfl⟩
  have HE3 : Ext w W3 := by rw [hW3]; exact (((Below.refl _ _).alloc (Nat.le_refl _) _).alloc (by simp) _).alloc (by simp; omega) _
  have hs3 : W3.heap.size = c + 3 := by rw [hW3, hc]; simp
  have HF3 : RowAt (c + 1) 16 (yv f) W3 := by
    have := (RowAt.new (w.alloc (.cells #[.int .u64 ((lo t).toNat : Int), .int .u64 ((hi t).toNat : Int)] 80)) 16 (yv f) 23).alloc (.cells (row 16 (yv fun _ => 0#8)).toArray 23)
    rw [hW3, hc]; simpa using this
  have HZ3 : RowAt (c + 1 + 1) 16 (yv fun _ => 0#8) W3 := by
    have := RowAt.new ((w.alloc (.cells #[.int .u64 ((lo t).toNat : Int), .int .u64 ((hi t).toNat : Int)] 80)).alloc (.cells (row 16 (yv f)).toArray 23)) 16 (yv fun _ => 0#8) 23
    rw [hW3, hc]; simpa using this
  have hcl3 : W3.cell? ⟨b, 0, none⟩ = some (.func (.func g) #[p] #[]) := (Below.cell HE3 (p := ⟨b, 0, none⟩) hbw).trans hcell
  replace hW3 := hideit hW3
  replace HE3 := hideit HE3
  replace HF3 := hideit HF3
  replace HZ3 := hideit HZ3
  replace hcl3 := hideit hcl3
  replace hci := hideit hci
  replace hg := hideit hg
  clear hcell
  have hby := bytes_any t
  generalize hm : byB t = m at *
  replace hm := hideit hm
  go_enter Try.func56, Try.ntmps56
  go_upto_region 1 with (fail)
  rw [← hW3.out, ← hc]
  have hcw : w.heap.size ≤ c := by omega
  have HH3 : HalfAt c t W3 := by
    have h0 : W3.cell? ⟨c, 0, none⟩ = some (.int .u64 ((lo t).toNat : Int)) := by rw [hW3.out, hc]; simp [go_sem]
    have h1 : W3.cell? ⟨c, 1, none⟩ = some (.int .u64 ((hi t).toNat : Int)) := by rw [hW3.out, hc]; simp [go_sem]
    have h2 : W3.frozen? ⟨c, 0, none⟩ = false := by rw [hW3.out, hc]; simp [go_sem]
    have h3 : W3.frozen? ⟨c, 1, none⟩ = false := by rw [hW3.out, hc]; simp [go_sem]
    exact ⟨h0, h1, h2, h3⟩
  have eh0 := HH3.1
  have eh1 := HH3.2.1
  clear hc hW3 HH3
  replace hby := hideit hby
  obtain ⟨HD, hHD⟩ : ∃ HD : World → World → Prop, HD = fun X Y => Ext X Y := ⟨_, rfl⟩
  go_upto_region 2 with (first | (go_at_call 46; refine (hby.out _).mono ?_; rintro e w4 ⟨rfl, h4⟩; have HX4 : Hid (Ext W3 w4) := hideit h4; clear h4 eh0 eh1; obtain ⟨d, hd⟩ : ∃ d, d = w4.heap.size := ⟨_, rfl⟩; have HN4 : Hid (RowAt d 16 (yv fun _ => 0#8) (w4.alloc (.cells (row 16 (yv fun _ => 0#8)).toArray 23))) := hideit (by rw [hd]; exact RowAt.new w4 16 (yv fun _ => 0#8) 23)) | (rw [← hd]; refine wpList_store_mid rfl 23 (.tmp 6) (.tmp 8) rfl _ 0 (row 16 (yv m)).toArray rfl rfl (by rw [row_size]; exact HN4.out.there) (by rw [row_size]; exact info32) (row_one fun _ _ => rfl) ?_))
  clear hHD
  have HX5 : Ext W3 (w4.alloc (.cells (row 16 (yv fun _ => 0#8)).toArray 23)) := Ext.trans HX4.out ((Below.refl _ _).alloc (Nat.le_refl _) _)
  have hd3 : W3.heap.size ≤ d := by have := Below.size HX4.out; omega
  have HX6 : Hid (Ext W3 ((w4.alloc (.cells (row 16 (yv fun _ => 0#8)).toArray 23)).setCells d 0 (row 16 (yv m)))) := hideit (below_setCells d hd3 (row 16 (yv m)) 0 _ HX5)
  have HM6 := hideit (HN4.out.cells (g' := yv m))
  clear HN4 HX5 HX4 hd
  generalize (w4.alloc (.cells (row 16 (yv fun _ => 0#8)).toArray 23)).setCells d 0 (row 16 (yv m)) = Y at *
  simp only [Act.put]
  have e0 : ∀ k : Kept (Ext Y.drew), k.w.cell? ⟨b, 0, none⟩ = some (.func (.func g) #[p] #[]) := fun k => by
    have h := Ext.trans (Ext.trans HX6.out ((Below.refl _ _).drew)) k.ok
    exact (Below.cell h (p := ⟨b, 0, none⟩) (by show b < _; omega)).trans hcl3.out
  have HF : Hid (∀ X, Ext Y.drew X → RowAt (c + 1) 16 (yv f) X) := fun X hX => ((HF3.out.carry HX6.out).drew).carry hX
  have HM : Hid (∀ X, Ext Y.drew X → RowAt d 16 (yv m) X) := fun X hX => (HM6.out.drew).carry hX
  have hne := kept_ne Y.drew
  refine wp_region_late 7 (by kernel_rfl) (by kernel_rfl) (by decide) ?_
  simp only [List.take_succ_cons, List.take_zero, List.drop_succ_cons, List.drop_zero]
  refine wpStrong_run 3 rfl ?_
  simp only [List.take_succ_cons, List.take_zero, List.drop_succ_cons, List.drop_zero]
  go_big_quiet_step (fail)
  go_big_quiet_want
  refine loadQ 23 (.tmp 4) (c + 1) 0 16 (yv f) rfl rfl (fun w' hw' => (HF.out w' hw').range) Try.underlying23 rfl info32 ?_
  simp only [Act.put, List.setIfInBounds_toArray, List.set_cons_zero, List.set_cons_succ]
  go_big_quiet_on
  go_big_quiet_want
  refine loadQ 23 (.tmp 6) d 0 16 (yv m) rfl rfl (fun w' hw' => (HM.out w' hw').range) Try.underlying23 rfl info32 ?_
  simp only [Act.put, List.setIfInBounds_toArray, List.set_cons_zero, List.set_cons_succ]
  go_big_quiet_on
  refine wpQuiet_nil ?_
  refine wpStrong_call rfl (fun X => by simp [go_sem]) (fun X _ => xadd_any f m X) ?_
  simp only [Act.put, List.setIfInBounds_toArray, List.set_cons_zero, List.set_cons_succ]
  refine wpStrong_call rfl (fun X => by simp [go_sem, hg.out]) (fun X hX => hci.out X (Ext.trans (Ext.trans (Ext.trans HE3.out HX6.out) ((Below.refl _ _).drew)) hX) (addF f m)) ?_
  simp only [Act.put, List.setIfInBounds_toArray, List.set_cons_zero, List.set_cons_succ]
  refine wpStrong_run 1 rfl ?_
  simp only [List.take_succ_cons, List.take_zero, List.drop_succ_cons, List.drop_zero]
  go_big_quiet_want
  refine loadQ 23 (.tmp 6) d 0 16 (yv m) rfl rfl (fun w' hw' => (HM.out w' hw').range) Try.underlying23 rfl info32 ?_
  simp only [Act.put, List.setIfInBounds_toArray, List.set_cons_zero, List.set_cons_succ]
  go_big_quiet_on
  refine wpQuiet_nil ?_
  refine wpStrong_call rfl (fun X => by simp [go_sem]) (fun X _ => xadd_any (cF (addF f m)) m X) ?_
  simp only [Act.put, List.setIfInBounds_toArray, List.set_cons_zero, List.set_cons_succ]
  refine wpStrong_nil ?_
  intro X hX
  have HZ : RowAt (c + 1 + 1) 16 (yv fun _ => 0#8) X := ((HZ3.out.carry HX6.out).drew).carry hX
  have HEX : Ext w X := Ext.trans (Ext.trans (Ext.trans HE3.out HX6.out) ((Below.refl _ _).drew)) hX
  replace HZ := hideit HZ
  replace HEX := hideit HEX
  clear hX e0 hne HF HM
  refine wpList_store_mid rfl 23 (.tmp 5) (.tmp 15) rfl _ 0 (row 16 (yv (addF (cF (addF f m)) m))).toArray rfl rfl (by rw [row_size]; exact HZ.out.there) (by rw [row_size]; exact info32) (row_one fun _ _ => rfl) ?_
  go_wp2
  refine bodyPost_ret (ret_row Try.results56 rfl (HZ.out.cells (g' := yv (addF (cF (addF f m)) m))) Try.underlying23 rfl info32) rfl ⟨?_, below_setCells _ (by omega) _ _ _ HEX.out⟩
  unfold chF
  rw [hm.out]
theorem enters12 : ∀ args X, (callFunc 12 args).run Try.prog X = .ok (.enter 12 args) X := fun args X => by simp [go_sem]
theorem enters14 : ∀ args X, (callFunc 14 args).run Try.prog X = .ok (.enter 14 args) X := fun args X => by simp [go_sem]
/-- the function that between makes: block b holds what it calls -/
def betwV (b : Nat) : Value := .func (.func 56) #[] #[.pointer (some ⟨b, 0, none⟩)]
theorem between_any (g : FuncId) (p : Value) (w : World) : Calls Try.prog 40 #[.func (.func g) #[p] #[]] w fun e w' => e = .returned (betwV w.heap.size) ∧ w'.cell? ⟨w.heap.size, 0, none⟩ = some (.func (.func g) #[p] #[]) ∧ Below w.heap.size w w' := by
  go_enter Try.func40, Try.ntmps40
  go_wp2
  go_ret
  exact ⟨rfl, by simp [go_sem], (Below.refl _ _).alloc (Nat.le_refl _) _⟩
/-- the two cells of a tweak -/
def hv (t : BitVec 128) (j : Nat) : Value := if j = 0 then .int .u64 ((lo t).toNat : Int) else .int .u64 ((hi t).toNat : Int)
theorem hv_row (t : BitVec 128) : row 2 (hv t) = [.int .u64 ((lo t).toNat : Int), .int .u64 ((hi t).toNat : Int)] := rfl
theorem info80 : (Try.prog.info? 80).map (·.size) = some 2 := by kernel_rfl
theorem hv_one (t : BitVec 128) : (row 2 (hv t)).toArray.all (·.oneCell') = true := row_one fun j _ => by unfold hv; split <;> rfl
/-- a pair in memory -/
structure PairAt (q c1 c2 r : Nat) (S1 S2 : Nat → BitVec 8) (w : World) : Prop where
  one : w.cell? ⟨q, 0, none⟩ = some (.pointer (some ⟨c1, 0, none⟩))
  two : w.cell? ⟨q, 1, none⟩ = some (.pointer (some ⟨c2, 0, none⟩))
  blocks : CipherAt c1 r S1 bxT ubT twT w
  tweaks : CipherAt c2 r S2 bxT ubT twT w
  inQ : q < w.heap.size
theorem PairAt.ext {q c1 c2 r : Nat} {S1 S2 : Nat → BitVec 8} {w X : World} (h : PairAt q c1 c2 r S1 S2 w) (k : Ext w X) : PairAt q c1 c2 r S1 S2 X :=
  ⟨(Below.cell k (p := ⟨q, 0, none⟩) h.inQ).trans h.one, (Below.cell k (p := ⟨q, 1, none⟩) h.inQ).trans h.two, h.blocks.carry k, h.tweaks.carry k, Nat.lt_of_lt_of_le h.inQ (Below.size k)⟩
theorem PairAt.drew {q c1 c2 r : Nat} {S1 S2 : Nat → BitVec 8} {w : World} (h : PairAt q c1 c2 r S1 S2 w) : PairAt q c1 c2 r S1 S2 w.drew := h.ext ((Below.refl _ _).drew)
/-- a unit's tweak at place 0 -/
def tw0 (S2 : Nat → BitVec 8) (r : Nat) (u : BitVec 64) : BitVec 128 := ofB (encF S2 bxT twT r (byB (jn u 0#64)))
set_option maxRecDepth 20000 in
set_option maxHeartbeats 2000000 in
theorem first_any (q c1 c2 r : Nat) (S1 S2 : Nat → BitVec 8) (hr : 1 ≤ r) (hr2 : r ≤ 14) (u : BitVec 64) (w : World) (hP : PairAt q c1 c2 r S1 S2 w) :
    Calls Try.prog 42 #[.pointer (some ⟨q, 0, none⟩), .int .u64 (u.toNat : Int)] w fun e w' => e = .returned (.agg #[.int .u64 ((lo (tw0 S2 r u)).toNat : Int), .int .u64 ((hi (tw0 S2 r u)).toNat : Int)]) ∧ Below w.heap.size w w' := by
  have hz := store_Y16
  obtain ⟨x, hx⟩ : ∃ x, x = jn u 0#64 := ⟨_, rfl⟩
  have hby := bytes_any x
  have hlo : (lo x).toNat = u.toNat := by rw [hx, lo_jn]
  have hhi : (hi x).toNat = 0 := by rw [hx, hi_jn]; rfl
  rw [hlo, hhi] at hby
  have hby' : ∀ w : World, Calls Try.prog 46 #[.agg #[.int .u64 (u.toNat : Int), .int .u64 0]] w fun e w' => e = .returned (.agg (row 16 (yv (byB x))).toArray) ∧ Below w.heap.size w w' := hby
  clear hby hlo hhi
  generalize hm : byB x = m at *
  replace hm := hideit hm
  replace hx := hideit hx
  replace hby' := hideit hby'
  obtain ⟨c, hc⟩ : ∃ c, c = w.heap.size := ⟨_, rfl⟩
  obtain ⟨W1, hW1⟩ : ∃ W1, W1 = w.alloc (.cells #[.int .u64 0, .int .u64 0] 80) := ⟨_, rfl⟩
  have HE1 : Ext w W1 := by rw [hW1]; exact (Below.refl _ _).alloc (Nat.le_refl _) _
  have HZ1 : RowAt c 2 (hv 0#128) W1 := by rw [hW1, hc]; exact RowAt.new w 2 (hv 0#128) 80
  replace hW1 := hideit hW1
  replace HE1 := hideit HE1
  replace HZ1 := hideit HZ1
  replace hP := hideit hP
  go_enter Try.func42, Try.ntmps42
  go_upto_region 1 with (fail)
  rw [← hW1.out, ← hc]
  have hcw : w.heap.size ≤ c := by omega
  clear hc hW1
  go_upto_region 2 with (first | (go_at_call 46; refine (hby'.out _).mono ?_; rintro e w4 ⟨rfl, h4⟩; have HX4 : Hid (Ext W1 w4) := hideit h4; clear h4; obtain ⟨d, hd⟩ : ∃ d, d = w4.heap.size := ⟨_, rfl⟩; have HN4 : Hid (RowAt d 16 (yv fun _ => 0#8) (w4.alloc (.cells (row 16 (yv fun _ => 0#8)).toArray 23))) := hideit (by rw [hd]; exact RowAt.new w4 16 (yv fun _ => 0#8) 23)) | (rw [← hd]; refine wpList_store_mid rfl 23 (.tmp 5) (.tmp 8) rfl _ 0 (row 16 (yv m)).toArray rfl rfl (by rw [row_size]; exact HN4.out.there) (by rw [row_size]; exact info32) (row_one fun _ _ => rfl) ?_))
  have HX5 : Ext W1 (w4.alloc (.cells (row 16 (yv fun _ => 0#8)).toArray 23)) := Ext.trans HX4.out ((Below.refl _ _).alloc (Nat.le_refl _) _)
  have hd3 : W1.heap.size ≤ d := by have := Below.size HX4.out; omega
  have HX6 : Hid (Ext W1 ((w4.alloc (.cells (row 16 (yv fun _ => 0#8)).toArray 23)).setCells d 0 (row 16 (yv m)))) := hideit (below_setCells d hd3 (row 16 (yv m)) 0 _ HX5)
  have HM6 := hideit (HN4.out.cells (g' := yv m))
  clear HN4 HX5 HX4 hd
  generalize (w4.alloc (.cells (row 16 (yv fun _ => 0#8)).toArray 23)).setCells d 0 (row 16 (yv m)) = Y at *
  simp only [Act.put]
  have HPY : Hid (∀ X, Ext Y.drew X → PairAt q c1 c2 r S1 S2 X) := fun X hX => hP.out.ext (Ext.trans (Ext.trans (Ext.trans HE1.out HX6.out) ((Below.refl _ _).drew)) hX)
  have e1 : ∀ k : Kept (Ext Y.drew), k.w.cell? ⟨q, 1, none⟩ = some (.pointer (some ⟨c2, 0, none⟩)) := fun k => (HPY.out k.w k.ok).two
  have HM : Hid (∀ X, Ext Y.drew X → RowAt d 16 (yv m) X) := fun X hX => (HM6.out.drew).carry hX
  have hne := kept_ne Y.drew
  refine wp_region_late 7 (by kernel_rfl) (by kernel_rfl) (by decide) ?_
  simp only [List.take_succ_cons, List.take_zero, List.drop_succ_cons, List.drop_zero]
  refine wpStrong_run 5 rfl ?_
  simp only [List.take_succ_cons, List.take_zero, List.drop_succ_cons, List.drop_zero]
  go_big_quiet_step (fail)
  go_big_quiet_step (fail)
  go_big_quiet_step (fail)
  go_big_quiet_step (fail)
  go_big_quiet_want
  refine loadQ 23 (.tmp 5) d 0 16 (yv m) rfl rfl (fun w' hw' => (HM.out w' hw').range) Try.underlying23 rfl info32 ?_
  simp only [Act.put, List.setIfInBounds_toArray, List.set_cons_zero, List.set_cons_succ]
  go_big_quiet_on
  refine wpQuiet_nil ?_
  refine wpStrong_call rfl (fun X => by simp [go_sem]) (fun X hX => enc_any c2 r S2 bxT ubT twT m hr hr2 X (HPY.out X hX).tweaks) ?_
  simp only [Act.put, List.setIfInBounds_toArray, List.set_cons_zero, List.set_cons_succ]
  obtain ⟨E, hE⟩ : ∃ E, E = encF S2 bxT twT r m := ⟨_, rfl⟩
  rw [← hE]
  replace hE := hideit hE
  refine wpStrong_call rfl (fun X => by simp [go_sem]) (fun X _ => of_any E X) ?_
  simp only [Act.put, List.setIfInBounds_toArray, List.set_cons_zero, List.set_cons_succ]
  refine wpStrong_nil ?_
  intro X hX
  have HZ : RowAt c 2 (hv 0#128) X := ((HZ1.out.carry HX6.out).drew).carry hX
  have HEX : Ext w X := Ext.trans (Ext.trans (Ext.trans HE1.out HX6.out) ((Below.refl _ _).drew)) hX
  replace HZ := hideit HZ
  replace HEX := hideit HEX
  clear hX e1 hne HM HPY
  refine wpList_store_mid rfl 80 (.tmp 4) (.tmp 15) rfl _ 0 (row 2 (hv (ofB E))).toArray rfl rfl (by rw [row_size]; exact HZ.out.there) (by rw [row_size]; exact info80) (hv_one _) ?_
  go_wp2
  refine bodyPost_ret (ret_row Try.results42 rfl (HZ.out.cells (g' := hv (ofB E))) Try.underlying80 rfl info80) rfl ⟨?_, below_setCells _ (by omega) _ _ _ HEX.out⟩
  unfold tw0
  rw [← hx.out, hm.out, ← hE.out]
  rfl
theorem refusal_nil (v : Value) (w : World) : Calls Try.prog 39 #[.pointer none, v] w fun e w' => e = .returned (.int .i64 6) ∧ w' = w := by
  go_enter Try.func39, Try.ntmps39
  go_wp2
  go_ret
  exact ⟨rfl, rfl⟩
theorem refusal_bad (q : Addr) (a : Option Addr) (l cap : Nat) (h : l < 16 ∨ 65536 < l) (w : World) : Calls Try.prog 39 #[.pointer (some q), .slice a l cap] w fun e w' => e = .returned (.int .i64 30) ∧ w' = w := by
  rcases Nat.lt_or_ge l 16 with h1 | h1
  · have h2 : (l : Int) < 16 := by omega
    go_enter Try.func39, Try.ntmps39
    go_wp2
    go_ret
    exact ⟨rfl, rfl⟩
  · have h2 : ¬ (l : Int) < 16 := by omega
    have h3 : (65536 : Int) < (l : Int) := by omega
    go_enter Try.func39, Try.ntmps39
    go_wp2
    go_ret
    exact ⟨rfl, rfl⟩
theorem refusal_ok (q : Addr) (a : Option Addr) (l cap : Nat) (h : 16 ≤ l) (h' : l ≤ 65536) (w : World) : Calls Try.prog 39 #[.pointer (some q), .slice a l cap] w fun e w' => e = .returned (.int .i64 0) ∧ w' = w := by
  have h2 : ¬ (l : Int) < 16 := by omega
  have h3 : ¬ (65536 : Int) < (l : Int) := by omega
  go_enter Try.func39, Try.ntmps39
  go_wp2
  go_ret
  exact ⟨rfl, rfl⟩
end Go.Proofs.Ytkoodgfadedeoaa
