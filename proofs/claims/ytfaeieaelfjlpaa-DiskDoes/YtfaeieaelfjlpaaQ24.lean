/-
  The document's disk in memory; whether it is off; what may be written; a call counted. The document's disk: what a block has; a block read.
-/
import Derived.Test.YtfaeieaelfjlpaaQ23
import Derived.Laws.IdiomStrings
namespace Go.Proofs.Ytfaeieaelfjlpaa
open Go.RowKit Go.BigFrame Go.Maps
/-- the text of a block's bytes -/
def tx (f : Nat → BitVec 8) : ByteArray := bstr 512 fun t => ((f t).toNat : Int)
structure RM where
  bb : Nat
  cp : Nat
  lv : Nat → Value
/-- the three cells of the document's Disk -/
def rdV (N bb cp : Nat) (stp : Bool) (cl : Int) (j : Nat) : Value := if j = 0 then .slice (some ⟨bb, 0, none⟩) N cp else if j = 1 then .bool stp else .int .i64 cl
/-- the cells of its Blocks: what is sure, the list of what is not -/
def blV (s : DSt) (lv : Nat → Value) (j : Nat) : Value := if j % 2 = 0 then .string (tx (s.S (j / 2))) else lv (j / 2)
structure RdM (G : Nat → Prop) (x : Nat) (s : DSt) (stp : Bool) (cl : Int) (R : RM) (W : World) : Prop where
  st : RowAt x 3 (rdV s.N R.bb R.cp stp cl) W
  n4 : s.N ≤ 4096
  ncp : s.N ≤ R.cp
  ck : -9223372036854775808 ≤ cl ∧ cl ≤ 9223372036854775807
  row : RowAt R.bb (s.N * 2) (blV s R.lv) W
  list : ∀ n, n < s.N → OwnB 0 9 (R.lv n) (s.kc n) (fun j => .string (tx (s.uc n j))) W
  gx : G x
  gb : G R.bb
  gl : ∀ n b, n < s.N → (R.lv n).ownBlock = some b → G b
  xb : x ≠ R.bb
  la : ∀ n b, n < s.N → (R.lv n).ownBlock = some b → b ≠ x ∧ b ≠ R.bb
  lt : ∀ i, G i → i < W.heap.size
  nx : ¬ IsB x W
  nbb : ¬ IsB R.bb W
section
variable {F G : Nat → Prop} {x : Nat} {s : DSt} {stp : Bool} {cl : Int} {R : RM} {W Y : World}
theorem RdM.keep (h : RdM G x s stp cl R W) (k : Keeps F W Y) (hd : ∀ i, G i → ¬ F i) : RdM G x s stp cl R Y := { h with
  st := h.st.keep k (hd _ h.gx)
  row := h.row.keep k (hd _ h.gb)
  list := fun n hn => (h.list n hn).keep k fun b hb => hd b (h.gl n b hn hb)
  lt := fun i hi => Nat.lt_of_lt_of_le (h.lt i hi) k.size
  nx := fun e => h.nx (e.back k (h.lt _ h.gx) (hd _ h.gx))
  nbb := fun e => h.nbb (e.back k (h.lt _ h.gb) (hd _ h.gb)) }
theorem RdM.ext (h : RdM G x s stp cl R W) (k : Ext W Y) : RdM G x s stp cl R Y := h.keep (F := fun _ => False) (Keeps.of_ext k) fun _ _ e => e
theorem RdM.c0 (h : RdM G x s stp cl R W) : W.cell? ⟨x, 0, none⟩ = some (.slice (some ⟨R.bb, 0, none⟩) s.N R.cp) := h.st.1 0 (by decide)
theorem RdM.c1 (h : RdM G x s stp cl R W) : W.cell? ⟨x, 1, none⟩ = some (.bool stp) := h.st.1 1 (by decide)
theorem RdM.c2 (h : RdM G x s stp cl R W) : W.cell? ⟨x, 2, none⟩ = some (.int .i64 cl) := h.st.1 2 (by decide)
/-- its counter turned -/
theorem RdM.turnX (h : RdM G x s stp cl R W) (k : But x W Y) (stp' : Bool) (cl' : Int) (hst : RowAt x 3 (rdV s.N R.bb R.cp stp' cl') Y) (hck : -9223372036854775808 ≤ cl' ∧ cl' ≤ 9223372036854775807) (hb : ¬ IsB x Y) : RdM G x s stp' cl' R Y ∧ Keeps (fun i => i = x ∨ i = R.bb) W Y := by
  have kk : Keeps (fun i => i = x ∨ i = R.bb) W Y := Keeps.of_grown k fun b hb => by cases hb; exact .inl (.inl rfl)
  have kx : Keeps (fun i => i = x) W Y := Keeps.of_grown k fun b hb => by cases hb; exact .inl rfl
  exact ⟨{ h with
    st := hst
    ck := hck
    row := h.row.keep kx fun e => h.xb e.symm
    list := fun n hn => (h.list n hn).keep kx fun b hb e => (h.la n b hn hb).1 e
    lt := fun i hi => Nat.lt_of_lt_of_le (h.lt i hi) k.size
    nx := hb
    nbb := fun e => h.nbb (e.back kx (h.lt _ h.gb) fun e2 => h.xb e2.symm) }, kk⟩
theorem RdM.set1 (h : RdM G x s stp cl R W) (b : Bool) : RdM G x s b cl R (W.setCell ⟨x, 1, none⟩ (.bool b)) ∧ Keeps (fun i => i = x ∨ i = R.bb) W (W.setCell ⟨x, 1, none⟩ (.bool b)) :=
  h.turnX (but_setCell W x 1 _) b cl ((h.st.set 1 (.bool b)).congr fun j hj => by rcases (by omega : j = 0 ∨ j = 1 ∨ j = 2) with rfl | rfl | rfl <;> rfl) h.ck fun e => h.nx e.unset
theorem RdM.set2 (h : RdM G x s stp cl R W) (n : Int) (hn : -9223372036854775808 ≤ n ∧ n ≤ 9223372036854775807) : RdM G x s stp n R (W.setCell ⟨x, 2, none⟩ (.int .i64 n)) ∧ Keeps (fun i => i = x ∨ i = R.bb) W (W.setCell ⟨x, 2, none⟩ (.int .i64 n)) :=
  h.turnX (but_setCell W x 2 _) stp n ((h.st.set 2 (.int .i64 n)).congr fun j hj => by rcases (by omega : j = 0 ∨ j = 1 ∨ j = 2) with rfl | rfl | rfl <;> rfl) hn fun e => h.nx e.unset
def offR (stp : Bool) (cl : Int) : Bool := stp && decide (cl = 0)
theorem roff (h : RdM G x s stp cl R W) : Calls Try.prog 37 #[.pointer (some ⟨x, 0, none⟩)] W fun e w' => e = .returned (.bool (offR stp cl)) ∧ w' = W := by
  have e1 := h.c1
  have e2 := h.c2
  clear h
  unfold offR
  cases stp with
  | false =>
    go_enter Try.func37, Try.ntmps37
    go_wp2
    go_ret
    exact ⟨rfl, rfl⟩
  | true =>
    by_cases hp : cl = 0
    · rw [decide_eq_true hp]
      go_enter Try.func37, Try.ntmps37
      go_wp2
      go_ret
      exact ⟨by simp, rfl⟩
    · rw [decide_eq_false hp]
      go_enter Try.func37, Try.ntmps37
      go_wp2
      go_ret
      exact ⟨by simp [hp], rfl⟩
/-- may it be written there? -/
theorem rmay (h : RdM G x s stp cl R W) (n : Int) (o : Option Addr) (l c : Nat) : Calls Try.prog 45 #[.pointer (some ⟨x, 0, none⟩), .int .i64 n, .slice o l c] W fun e w' => e = .returned (.int .i64 (cbE s.N n l)) ∧ w' = W := by
  have e0 := h.c0
  have hn4 := h.n4
  clear h
  by_cases h0 : n < 0
  · rw [show cbE s.N n l = 100 from by unfold cbE; rw [if_neg (by unfold inN; simp; omega)]]
    go_enter Try.func45, Try.ntmps45
    go_wp2
    go_ret
    exact ⟨rfl, rfl⟩
  · by_cases h1 : (s.N : Int) ≤ n
    · rw [show cbE s.N n l = 100 from by unfold cbE; rw [if_neg (by unfold inN; simp; omega)]]
      go_enter Try.func45, Try.ntmps45
      go_wp2
      go_ret
      exact ⟨rfl, rfl⟩
    · by_cases h5 : l = 512
      · subst h5
        rw [show cbE s.N n 512 = 0 from by unfold cbE; rw [if_pos (by unfold inN; simp; omega), if_pos rfl]]
        go_enter Try.func45, Try.ntmps45
        go_wp2
        go_ret
        exact ⟨rfl, rfl⟩
      · rw [show cbE s.N n l = 101 from by unfold cbE; rw [if_pos (by unfold inN; simp; omega), if_neg h5]]
        have h5' : ¬ (l : Int) = 512 := by omega
        clear h5
        go_enter Try.func45, Try.ntmps45
        go_wp2
        go_ret
        exact ⟨rfl, rfl⟩
/-- a call counted -/
def clD (stp : Bool) (cl : Int) : Int := if stp = true then cl - 1 else cl
theorem rdid (h : RdM G x s stp cl R W) (hp : stp = true → 0 < cl) : Calls Try.prog 46 #[.pointer (some ⟨x, 0, none⟩)] W fun e w' => e = .returned (.int .i64 0) ∧ RdM G x s stp (clD stp cl) R w' ∧ Keeps (fun i => i = x ∨ i = R.bb) W w' := by
  have e1 := h.c1
  have e2 := h.c2
  have z2 : W.frozen? ⟨x, 2, none⟩ = false := h.st.2.1 2 (by decide)
  have hck := h.ck
  cases stp with
  | false =>
    replace h := hideit h
    clear e2 z2
    go_enter Try.func46, Try.ntmps46
    go_wp2
    go_ret
    exact ⟨rfl, h.out, Keeps.refl _ _⟩
  | true =>
    have hpos := hp rfl
    have hs := hideit (h.set2 (cl - 1) (by omega))
    have hw : IntKind.i64.wrap (cl - 1) = cl - 1 := by rw [IntKind.wrap_i64]; omega
    rw [show clD true cl = cl - 1 from rfl]
    clear h hp
    obtain ⟨q, hq⟩ : ∃ q, q = cl - 1 := ⟨_, rfl⟩
    rw [← hq] at hs hw
    rw [← hq]
    replace hq := hideit hq
    go_enter Try.func46, Try.ntmps46
    go_upto_region 2 with (fail)
    refine wp_region_lit ?_
    refine wpList_run rfl (.pointer (some ⟨x, 0, none⟩)) (by simp [go_sem]) ?_
    simp only [Act.put, List.setIfInBounds_toArray, List.set_cons_zero, List.set_cons_succ]
    refine wpList_run rfl (.pointer (some ⟨x, 0, none⟩)) (by simp [go_sem]) ?_
    simp only [Act.put, List.setIfInBounds_toArray, List.set_cons_zero, List.set_cons_succ]
    refine wpList_run rfl (.pointer (some ⟨x, 2, none⟩)) (by simp [go_sem]) ?_
    simp only [Act.put, List.setIfInBounds_toArray, List.set_cons_zero, List.set_cons_succ]
    refine wpList_run rfl (.int .i64 cl) (by simp [go_sem, e2]) ?_
    simp only [Act.put, List.setIfInBounds_toArray, List.set_cons_zero, List.set_cons_succ]
    refine wpList_run rfl (.int .i64 q) (by simp [go_sem, ← hq.out, hw]) ?_
    simp only [Act.put, List.setIfInBounds_toArray, List.set_cons_zero, List.set_cons_succ]
    refine wpList_run rfl (.pointer (some ⟨x, 0, none⟩)) (by simp [go_sem]) ?_
    simp only [Act.put, List.setIfInBounds_toArray, List.set_cons_zero, List.set_cons_succ]
    refine wpList_run rfl (.pointer (some ⟨x, 2, none⟩)) (by simp [go_sem]) ?_
    simp only [Act.put, List.setIfInBounds_toArray, List.set_cons_zero, List.set_cons_succ]
    refine wpList_st9 rfl (W.setCell ⟨x, 2, none⟩ (.int .i64 q)) (by simp [go_sem, e2, z2]) ?_
    simp only [Act.put]
    clear e1 e2 z2 hw hck
    go_wp2
    go_ret
    exact ⟨rfl, hs.out.1, hs.out.2⟩
/-- so many further calls -/
theorem rstop (h : RdM G x s stp cl R W) (n : Int) (hn : -9223372036854775808 ≤ n ∧ n ≤ 9223372036854775807) : Calls Try.prog 35 #[.pointer (some ⟨x, 0, none⟩), .int .i64 n] W fun e w' => e = .returned (.tuple #[]) ∧ RdM G x s (if offR stp cl then stp else decide (0 ≤ n)) (if offR stp cl then cl else n) R w' ∧ Keeps (fun i => i = x ∨ i = R.bb) W w' := by
  have ko := roff h
  cases ho : offR stp cl with
  | true =>
    rw [ho] at ko
    replace ko := hideit ko
    rw [if_pos rfl, if_pos rfl]
    replace h := hideit h
    clear ho
    go_enter Try.func35, Try.ntmps35
    go_wp2_with (go_at_call 37; refine ko.out.mono ?_; rintro e w9 ⟨rfl, hw9⟩; rw [hw9]; clear hw9)
    exact bodyPost_end (v := .tuple #[]) (by simp [results, Try.results35]) rfl ⟨rfl, h.out, Keeps.refl _ _⟩
  | false =>
    rw [ho] at ko
    replace ko := hideit ko
    rw [if_neg (by decide), if_neg (by decide)]
    have e1 := h.c1
    have e2 := h.c2
    have z1 : W.frozen? ⟨x, 1, none⟩ = false := h.st.2.1 1 (by decide)
    obtain ⟨h1, k1⟩ := h.set1 (decide (0 ≤ n))
    have e2' := h1.c2
    have z2' : (W.setCell ⟨x, 1, none⟩ (.bool (decide (0 ≤ n)))).frozen? ⟨x, 2, none⟩ = false := h1.st.2.1 2 (by decide)
    obtain ⟨h2, k2⟩ := h1.set2 n hn
    have hs := hideit (And.intro h2 (k1.trans (F' := fun i => i = x ∨ i = R.bb) k2 fun i hi => .inl hi))
    clear h h1 k1 h2 k2 ho
    go_enter Try.func35, Try.ntmps35
    go_upto_region 1 with (go_at_call 37; refine ko.out.mono ?_; rintro e w9 ⟨rfl, hw9⟩; rw [hw9]; clear hw9)
    refine wp_region_lit ?_
    refine wpList_run rfl (.pointer (some ⟨x, 0, none⟩)) (by simp [go_sem]) ?_
    simp only [Act.put, List.setIfInBounds_toArray, List.set_cons_zero, List.set_cons_succ]
    refine wpList_run rfl (.pointer (some ⟨x, 0, none⟩)) (by simp [go_sem]) ?_
    simp only [Act.put, List.setIfInBounds_toArray, List.set_cons_zero, List.set_cons_succ]
    refine wpList_run rfl (.int .i64 n) (by simp [go_sem]) ?_
    simp only [Act.put, List.setIfInBounds_toArray, List.set_cons_zero, List.set_cons_succ]
    refine wpList_run rfl (.bool (decide (0 ≤ n))) (by simp [go_sem]) ?_
    simp only [Act.put, List.setIfInBounds_toArray, List.set_cons_zero, List.set_cons_succ]
    refine wpList_run rfl (.int .i64 n) (by simp [go_sem]) ?_
    simp only [Act.put, List.setIfInBounds_toArray, List.set_cons_zero, List.set_cons_succ]
    refine wpList_run rfl (.pointer (some ⟨x, 0, none⟩)) (by simp [go_sem]) ?_
    simp only [Act.put, List.setIfInBounds_toArray, List.set_cons_zero, List.set_cons_succ]
    refine wpList_run rfl (.pointer (some ⟨x, 1, none⟩)) (by simp [go_sem]) ?_
    simp only [Act.put, List.setIfInBounds_toArray, List.set_cons_zero, List.set_cons_succ]
    refine wpList_st9 rfl (W.setCell ⟨x, 1, none⟩ (.bool (decide (0 ≤ n)))) (by simp [go_sem, e1, z1]) ?_
    simp only [Act.put]
    clear e1 z1 e2
    generalize W.setCell ⟨x, 1, none⟩ (.bool (decide (0 ≤ n))) = W1 at *
    refine wpList_run rfl (.pointer (some ⟨x, 0, none⟩)) (by simp [go_sem]) ?_
    simp only [Act.put, List.setIfInBounds_toArray, List.set_cons_zero, List.set_cons_succ]
    refine wpList_run rfl (.pointer (some ⟨x, 2, none⟩)) (by simp [go_sem]) ?_
    simp only [Act.put, List.setIfInBounds_toArray, List.set_cons_zero, List.set_cons_succ]
    refine wpList_st9 rfl (W1.setCell ⟨x, 2, none⟩ (.int .i64 n)) (by simp [go_sem, e2', z2']) ?_
    simp only [Act.put]
    clear e2' z2'
    go_wp2
    exact bodyPost_end (v := .tuple #[]) (by simp [results, Try.results35]) rfl ⟨rfl, hs.out.1, hs.out.2⟩
end
end Go.Proofs.Ytfaeieaelfjlpaa
namespace Go.Proofs.Ytfaeieaelfjlpaa
open Go.RowKit Go.BigFrame Go.Maps
theorem push_data : ∀ (l : List Int) (r : ByteArray), (l.foldl (fun r n => r.push (UInt8.ofNat n.toNat)) r).data = r.data ++ (l.map fun n : Int => UInt8.ofNat n.toNat).toArray
  | [], r => by simp
  | a :: l, r => by
    rw [List.foldl_cons, push_data l]
    show r.data.push _ ++ _ = _
    simp
theorem tx_data (f : Nat → BitVec 8) : (tx f).data = ((List.range 512).map fun j => UInt8.ofNat (f j).toNat).toArray := by
  unfold tx bstr
  rw [push_data, List.map_map]
  show (#[] : Array UInt8) ++ (List.map _ (List.range 512)).toArray = _
  rw [Array.empty_append]
  exact congrArg (fun g => (List.map g (List.range 512)).toArray) (funext fun j => rfl)
set_option maxRecDepth 10000 in
theorem tx_size (f : Nat → BitVec 8) : (tx f).size = 512 := by
  show (tx f).data.size = 512
  rw [tx_data, List.size_toArray, List.length_map, List.length_range]
def labF (s : ByteArray) (j : Nat) : BitVec 8 := BitVec.ofNat 8 (s.data.getD j 0).toNat
set_option maxRecDepth 10000 in
theorem tx_lab (f : Nat → BitVec 8) (j : Nat) (hj : j < 512) : labF (tx f) j = f j := by
  unfold labF
  rw [tx_data]
  unfold Array.getD
  rw [dif_pos (by rw [List.size_toArray, List.length_map, List.length_range]; exact hj)]
  simp only [Array.getInternal_eq_getElem, List.getElem_toArray, List.getElem_map, List.getElem_range]
  simp
theorem lab_cell (s : ByteArray) (cap j : Nat) (hj : j < s.size) : (bytesRow s cap)[j]? = some (yv (labF s) j) := by
  have hj' : j < s.data.size := hj
  unfold bytesRow
  rw [Array.getElem?_append_left (by simpa using hj')]
  simp only [Array.getElem?_map, Array.getElem?_eq_getElem hj', Option.map_some, yv, labF, Option.some.injEq, Value.int.injEq, true_and]
  unfold Array.getD
  rw [dif_pos hj']
  have := (s.data[j]).toBitVec.isLt
  simp only [BitVec.toNat_ofNat]
  rw [Nat.mod_eq_of_lt (by simpa using this)]
  rfl
/-- a block's text as bytes -/
theorem run_tx (f : Nat → BitVec 8) (w : World) : ∃ v X, (convert 9 31 (.string (tx f))).run Try.prog w = .ok v X ∧ BV v 512 f X ∧ Ext w X := by
  have hr := run_bytes_of_string w 9 31 5 (tx f) Try.underlying9 Try.underlying31 Try.underlying5
  refine ⟨_, _, hr, .inr ⟨_, _, by rw [tx_size], by have := grownCap_ge w (tx f).size 0 5; rw [tx_size] at this; exact this, ?_⟩, ?_⟩
  · exact lie_new w.drew 512 _ 5 _ f (fun j hj => by rw [lab_cell (tx f) _ j (by rw [tx_size]; exact hj)]; unfold yv; rw [tx_lab f j hj])
  · exact Ext.trans (Below.refl _ _).drew ((Below.refl _ _).alloc (Nat.le_refl _) _)
def bkI (a : ByteArray) (v : Value) (j : Nat) : Value := if j = 0 then .string a else v
theorem zero63 (w : World) : Sem.run Try.prog (zeroValue 63) w = .ok (.agg (row 2 (bkI ByteArray.empty (.slice none 0 0))).toArray) w := by kernel_rfl
theorem info63 : (Try.prog.info? 63).map (·.size) = some 2 := by kernel_rfl
theorem own_form9 {base n : Nat} {e : TypeId} {v : Value} {g : Nat → Value} {w : World} (h : OwnB base e v n g w) : ∃ oa cp, v = .slice oa n cp := by
  rcases h.2 with ⟨rfl, rfl⟩ | ⟨g, cap, _, rfl, _⟩
  · exact ⟨none, 0, rfl⟩
  · exact ⟨_, cap, rfl⟩
section
variable {F G : Nat → Prop} {x : Nat} {s : DSt} {stp : Bool} {cl : Int} {R : RM} {W Y : World}
theorem rd_block (h : RdM G x s stp cl R W) {n : Nat} (hn : n < s.N) : W.rangeAt R.bb (n * 2) (row 2 (bkI (tx (s.S n)) (R.lv n))) := fun j y hy => by
  obtain ⟨hj, rfl⟩ := row_some hy
  rw [h.row.1 (n * 2 + j) (by omega)]
  unfold blV bkI
  rcases (by omega : j = 0 ∨ j = 1) with rfl | rfl
  · rw [if_pos (by omega), if_pos rfl, show (n * 2 + 0) / 2 = n by omega]
  · rw [if_neg (by omega), if_neg (by decide), show (n * 2 + 1) / 2 = n by omega]
set_option maxRecDepth 20000 in
set_option maxHeartbeats 2000000 in
theorem rhas (h : RdM G x s stp cl R W) (n : Nat) (hn : n < s.N) : Calls Try.prog 47 #[.pointer (some ⟨x, 0, none⟩), .int .i64 (n : Int)] W fun e w' => e = .returned (.string (tx (hasF s n))) ∧ Ext W w' := by
  have e0 := h.c0
  have hn4 := h.n4
  have hb := rd_block h hn
  have i0 : (0 : Int) ≤ (n : Int) := by omega
  have i1 : (n : Int) < (s.N : Int) := by omega
  have hz := zero63
  have hXa : Ext W (W.alloc (.cells (row 2 (bkI ByteArray.empty (.slice none 0 0))).toArray 63)) := (Below.refl _ _).alloc (Nat.le_refl _) _
  have Ca := RowAt.new W 2 (bkI ByteArray.empty (.slice none 0 0)) 63
  have hYa := below_setCells (w := W) W.heap.size (Nat.le_refl _) (row 2 (bkI (tx (s.S n)) (R.lv n))) 0 _ hXa
  have HK := Ca.cells (g' := bkI (tx (s.S n)) (R.lv n))
  have hO := (h.list n hn).ext hYa
  obtain ⟨lo, lc, hlv⟩ := own_form9 hO
  obtain ⟨r, hr⟩ : ∃ r, r = tx (hasF s n) := ⟨_, rfl⟩
  rw [← hr]
  clear h
  go_enter Try.func47, Try.ntmps47
  go_upto_region 1 with (fail)
  refine wp_region_lit ?_
  refine wpList_run rfl (.pointer (some ⟨x, 0, none⟩)) (by simp [go_sem]) ?_
  simp only [Act.put, List.setIfInBounds_toArray, List.set_cons_zero, List.set_cons_succ]
  refine wpList_run rfl (.pointer (some ⟨x, 0, none⟩)) (by simp [go_sem]) ?_
  simp only [Act.put, List.setIfInBounds_toArray, List.set_cons_zero, List.set_cons_succ]
  refine wpList_run rfl (.pointer (some ⟨x, 0, none⟩)) (by simp [go_sem]) ?_
  simp only [Act.put, List.setIfInBounds_toArray, List.set_cons_zero, List.set_cons_succ]
  refine wpList_run rfl (.slice (some ⟨R.bb, 0, none⟩) s.N R.cp) (by simp [go_sem, e0]) ?_
  simp only [Act.put, List.setIfInBounds_toArray, List.set_cons_zero, List.set_cons_succ]
  refine wpList_run rfl (.int .i64 (n : Int)) (by simp [go_sem]) ?_
  simp only [Act.put, List.setIfInBounds_toArray, List.set_cons_zero, List.set_cons_succ]
  refine wpList_run rfl (.pointer (some ⟨R.bb, n * 2, none⟩)) (by simp [go_sem, i1]) ?_
  simp only [Act.put, List.setIfInBounds_toArray, List.set_cons_zero, List.set_cons_succ]
  refine wpList_run rfl (.agg (row 2 (bkI (tx (s.S n)) (R.lv n))).toArray) (exec_loadR 63 (.tmp 11) rfl R.bb (n * 2) 2 _ rfl hb Try.underlying63 rfl info63) ?_
  simp only [Act.put, List.setIfInBounds_toArray, List.set_cons_zero, List.set_cons_succ]
  refine wpList_to rfl (.pointer (some ⟨W.heap.size, 0, none⟩)) (W.alloc (.cells (row 2 (bkI ByteArray.empty (.slice none 0 0))).toArray 63)) (by simp [go_sem, hz]) ?_
  simp only [Act.put, List.setIfInBounds_toArray, List.set_cons_zero, List.set_cons_succ]
  refine wpList_store_mid rfl 63 (.tmp 5) (.tmp 12) rfl _ 0 (row 2 (bkI (tx (s.S n)) (R.lv n))).toArray rfl rfl (by rw [row_size]; exact Ca.there) (by rw [row_size]; exact info63) (row_one fun j hj => by rcases (by omega : j = 0 ∨ j = 1) with rfl | rfl; exact rfl; rw [show bkI (tx (s.S n)) (R.lv n) 1 = R.lv n from rfl, hlv]; rfl) ?_
  rw [show (row 2 (bkI (tx (s.S n)) (R.lv n))).toArray.toList = row 2 (bkI (tx (s.S n)) (R.lv n)) from rfl]
  generalize (W.alloc (.cells (row 2 (bkI ByteArray.empty (.slice none 0 0))).toArray 63)).setCells W.heap.size 0 (row 2 (bkI (tx (s.S n)) (R.lv n))) = Y at *
  have hE : Ext W Y := hYa
  clear hYa
  generalize W.heap.size = c at *
  have c0 : Y.cell? ⟨c, 0, none⟩ = some (.string (tx (s.S n))) := HK.1 0 (by decide)
  have c1 : Y.cell? ⟨c, 1, none⟩ = some (.slice lo (s.kc n) lc) := by rw [← hlv]; exact HK.1 1 (by decide)
  clear hXa Ca HK hb hz e0
  by_cases hk : s.kc n = 0
  · rw [show tx (s.S n) = r from by rw [hr]; unfold hasF; rw [if_pos hk]] at c0
    rw [hk] at c1
    replace hE := hideit hE
    clear hO hlv hk
    go_upto_region 2 with (fail)
    refine wp_region_lit ?_
    refine wpList_run rfl (.pointer (some ⟨c, 1, none⟩)) (by simp [go_sem]) ?_
    simp only [Act.put, List.setIfInBounds_toArray, List.set_cons_zero, List.set_cons_succ]
    refine wpList_run rfl (.slice lo 0 lc) (by simp [go_sem, c1]) ?_
    simp only [Act.put, List.setIfInBounds_toArray, List.set_cons_zero, List.set_cons_succ]
    refine wpList_run rfl (.int .i64 0) (by simp [go_sem]) ?_
    simp only [Act.put, List.setIfInBounds_toArray, List.set_cons_zero, List.set_cons_succ]
    refine wpList_run rfl (.bool false) (by simp [go_sem]) ?_
    simp only [Act.put, List.setIfInBounds_toArray, List.set_cons_zero, List.set_cons_succ]
    go_upto_region 4 with (fail)
    refine wp_region_lit ?_
    refine wpList_run rfl (.pointer (some ⟨c, 0, none⟩)) (by simp [go_sem]) ?_
    simp only [Act.put, List.setIfInBounds_toArray, List.set_cons_zero, List.set_cons_succ]
    refine wpList_run rfl (.string r) (by simp [go_sem, c0]) ?_
    simp only [Act.put, List.setIfInBounds_toArray, List.set_cons_zero, List.set_cons_succ]
    refine wpList_run rfl (.string r) (by simp [go_sem]) ?_
    simp only [Act.put, List.setIfInBounds_toArray, List.set_cons_zero, List.set_cons_succ]
    go_wp2
    go_ret
    exact ⟨rfl, hE.out⟩
  · obtain ⟨lb, lcap, hlv2, _, hl1, hl2, hro⟩ := hO.lies (Nat.pos_of_ne_zero hk)
    rw [hlv] at hlv2
    injection hlv2 with e1 _ e3
    subst e1
    subst e3
    have cq : Y.cell? ⟨lb, s.kc n - 1, none⟩ = some (.string (tx (s.uc n (s.kc n - 1)))) := hro.1 (s.kc n - 1) (by omega)
    have hm : s.kc n ≤ 9223372036854775807 := by unfold maxLen at hl2; omega
    rw [show tx (s.uc n (s.kc n - 1)) = r from by rw [hr]; unfold hasF; rw [if_neg hk]] at cq
    obtain ⟨q, hq⟩ : ∃ q, s.kc n = q + 1 := ⟨s.kc n - 1, by omega⟩
    rw [hq, show q + 1 - 1 = q by omega] at cq
    rw [hq] at c1 hm
    have j1 : (q : Int) < ((q + 1 : Nat) : Int) := by omega
    have j2 : 0 < q + 1 := by omega
    have j3 : IntKind.i64.wrap (((q + 1 : Nat) : Int) - 1) = (q : Int) := by rw [IntKind.wrap_i64]; omega
    obtain ⟨k, hkk⟩ : ∃ k, k = q + 1 := ⟨_, rfl⟩
    rw [← hkk] at c1 j1 j2 j3
    replace hE := hideit hE
    clear hO hlv hk hro hl1 hl2 hm hkk hq c0
    go_upto_region 2 with (fail)
    refine wp_region_lit ?_
    refine wpList_run rfl (.pointer (some ⟨c, 1, none⟩)) (by simp [go_sem]) ?_
    simp only [Act.put, List.setIfInBounds_toArray, List.set_cons_zero, List.set_cons_succ]
    refine wpList_run rfl (.slice (some ⟨lb, 0, none⟩) k lc) (by simp [go_sem, c1]) ?_
    simp only [Act.put, List.setIfInBounds_toArray, List.set_cons_zero, List.set_cons_succ]
    refine wpList_run rfl (.int .i64 (k : Int)) (by simp [go_sem]) ?_
    simp only [Act.put, List.setIfInBounds_toArray, List.set_cons_zero, List.set_cons_succ]
    refine wpList_run rfl (.bool true) (by simp [go_sem, j2]) ?_
    simp only [Act.put, List.setIfInBounds_toArray, List.set_cons_zero, List.set_cons_succ]
    go_upto_region 3 with (fail)
    refine wp_region_lit ?_
    refine wpList_run rfl (.pointer (some ⟨c, 1, none⟩)) (by simp [go_sem]) ?_
    simp only [Act.put, List.setIfInBounds_toArray, List.set_cons_zero, List.set_cons_succ]
    refine wpList_run rfl (.slice (some ⟨lb, 0, none⟩) k lc) (by simp [go_sem, c1]) ?_
    simp only [Act.put, List.setIfInBounds_toArray, List.set_cons_zero, List.set_cons_succ]
    refine wpList_run rfl (.pointer (some ⟨c, 1, none⟩)) (by simp [go_sem]) ?_
    simp only [Act.put, List.setIfInBounds_toArray, List.set_cons_zero, List.set_cons_succ]
    refine wpList_run rfl (.slice (some ⟨lb, 0, none⟩) k lc) (by simp [go_sem, c1]) ?_
    simp only [Act.put, List.setIfInBounds_toArray, List.set_cons_zero, List.set_cons_succ]
    refine wpList_run rfl (.int .i64 (k : Int)) (by simp [go_sem]) ?_
    simp only [Act.put, List.setIfInBounds_toArray, List.set_cons_zero, List.set_cons_succ]
    refine wpList_run rfl (.int .i64 (q : Int)) (by simp [go_sem, j3]) ?_
    simp only [Act.put, List.setIfInBounds_toArray, List.set_cons_zero, List.set_cons_succ]
    refine wpList_run rfl (.pointer (some ⟨lb, q, none⟩)) (by simp [go_sem, j1]) ?_
    simp only [Act.put, List.setIfInBounds_toArray, List.set_cons_zero, List.set_cons_succ]
    refine wpList_run rfl (.string r) (by simp [go_sem, cq]) ?_
    simp only [Act.put, List.setIfInBounds_toArray, List.set_cons_zero, List.set_cons_succ]
    refine wpList_run rfl (.string r) (by simp [go_sem]) ?_
    simp only [Act.put, List.setIfInBounds_toArray, List.set_cons_zero, List.set_cons_succ]
    go_wp2
    go_ret
    exact ⟨rfl, hE.out⟩
theorem rread_bad (h : RdM G x s stp cl R W) (n : Int) (hn : inN s.N n = false) : Calls Try.prog 31 #[.pointer (some ⟨x, 0, none⟩), .int .i64 n] W fun e w' => e = .returned (.tuple #[.slice none 0 0, .int .i64 100]) ∧ w' = W := by
  have e0 := h.c0
  have hn4 := h.n4
  have hor : n < 0 ∨ (s.N : Int) ≤ n := by
    have := of_decide_eq_false hn
    omega
  clear h hn
  by_cases h0 : n < 0
  · clear hor
    go_enter Try.func31, Try.ntmps31
    go_wp2
    go_ret2
    exact ⟨rfl, rfl⟩
  · have h1 : (s.N : Int) ≤ n := by omega
    clear hor
    go_enter Try.func31, Try.ntmps31
    go_wp2
    go_ret2
    exact ⟨rfl, rfl⟩
theorem rread_off (h : RdM G x s stp cl R W) (n : Nat) (hn : n < s.N) (ho : offR stp cl = true) : Calls Try.prog 31 #[.pointer (some ⟨x, 0, none⟩), .int .i64 (n : Int)] W fun e w' => e = .returned (.tuple #[.slice none 0 0, .int .i64 102]) ∧ w' = W := by
  have e0 := h.c0
  have ko := roff h
  rw [ho] at ko
  replace ko := hideit ko
  have hn4 := h.n4
  have i0 : ¬ (n : Int) < 0 := by omega
  have i1 : ¬ (s.N : Int) ≤ (n : Int) := by omega
  clear h ho
  go_enter Try.func31, Try.ntmps31
  go_wp2_with (go_at_call 37; refine ko.out.mono ?_; rintro e w9 ⟨rfl, hw9⟩; rw [hw9]; clear hw9)
  go_ret2
  exact ⟨rfl, rfl⟩
theorem rread (h : RdM G x s stp cl R W) (n : Nat) (hn : n < s.N) (ho : offR stp cl = false) : Calls Try.prog 31 #[.pointer (some ⟨x, 0, none⟩), .int .i64 (n : Int)] W fun e w' => ∃ v, e = .returned (.tuple #[v, .int .i64 0]) ∧ BV v 512 (hasF s n) w' ∧ Ext W w' := by
  have e0 := h.c0
  have ko := roff h
  rw [ho] at ko
  replace ko := hideit ko
  have kh := hideit (rhas h n hn)
  have hn4 := h.n4
  have i0 : ¬ (n : Int) < 0 := by omega
  have i1 : ¬ (s.N : Int) ≤ (n : Int) := by omega
  clear h ho
  go_enter Try.func31, Try.ntmps31
  go_upto_region 5 with (go_at_call 37; refine ko.out.mono ?_; rintro e w9 ⟨rfl, hw9⟩; rw [hw9]; clear hw9)
  refine wp_region_lit ?_
  refine wpList_run rfl (.pointer (some ⟨x, 0, none⟩)) (by simp [go_sem]) ?_
  simp only [Act.put, List.setIfInBounds_toArray, List.set_cons_zero, List.set_cons_succ]
  refine wpList_run rfl (.int .i64 (n : Int)) (by simp [go_sem]) ?_
  simp only [Act.put, List.setIfInBounds_toArray, List.set_cons_zero, List.set_cons_succ]
  refine wpList_call rfl (by simp [go_sem]) ((kh.out).mono ?_)
  rintro e w1 ⟨rfl, hX1⟩
  refine ⟨_, rfl, ?_⟩
  simp only [Act.put, List.setIfInBounds_toArray, List.set_cons_zero, List.set_cons_succ]
  obtain ⟨v2, w2, hr2, hB2, hX2⟩ := run_tx (hasF s n) w1
  obtain ⟨o2, c2, rfl⟩ := hB2.form
  refine wpList_to rfl (.slice o2 512 c2) w2 (by simp [go_sem, hr2]) ?_
  simp only [Act.put, List.setIfInBounds_toArray, List.set_cons_zero, List.set_cons_succ]
  refine wpList_run rfl (.slice o2 512 c2) (by simp [go_sem]) ?_
  simp only [Act.put, List.setIfInBounds_toArray, List.set_cons_zero, List.set_cons_succ]
  refine wpList_run rfl (.int .i64 0) (by simp [go_sem]) ?_
  simp only [Act.put, List.setIfInBounds_toArray, List.set_cons_zero, List.set_cons_succ]
  have hE := hideit (Ext.trans hX1 hX2)
  replace hB2 := hideit hB2
  clear hr2 hX1 hX2 kh ko e0
  go_wp2
  go_ret2
  exact ⟨_, rfl, hB2.out, hE.out⟩
end
end Go.Proofs.Ytfaeieaelfjlpaa
