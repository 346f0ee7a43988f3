/-
  The document's own adding of a round key and turning of rows. The document's own Encrypt. The document's own New: facts on its cells.
-/
import Derived.Test.YtfpfgbhdehbggaaGreatDoorQa2
import Derived.Test.YtfpfgbhdehbggaaGreatDoorQa20
import Derived.Test.YtfpfgbhdehbggaaGreatDoorQa1
import Derived.Test.YtfpfgbhdehbggaaGreatDoorQa35
import Derived.Test.YtfpfgbhdehbggaaGreatDoorQa21
import Derived.Deep.CutRange
import Derived.Test.YtfpfgbhdehbggaaGreatDoorQa8
import Derived.Test.YtfpfgbhdehbggaaGreatDoorQa10
import Derived.Test.YtfpfgbhdehbggaaGreatDoorQa25
import Derived.Laws.AppendOwn
import Derived.OwnWalk
namespace Go.Proofs.YtfpfgbhdehbggaaGreatDoor
set_option maxRecDepth 20000
open Go.RowKit Go.BigFrame
set_option maxRecDepth 20000 in
set_option maxHeartbeats 1000000 in
theorem radd_any (f k : Nat → BitVec 8) (w : World) :
    Calls Tryz.prog 109 #[.agg (row 16 (yv f)).toArray, .agg (row 16 (yv k)).toArray] w fun e w' => e = .returned (.agg (row 16 (yv (addF f k))).toArray) ∧ Below w.heap.size w w' := by
  have hz := zero32
  go_enter Tryz.func109, Tryz.ntmps109
  go_wp2
  go_loopw [5] (fun i wr => ∃ n : Nat, n ≤ 16 ∧ i = .int .i64 n ∧ AddAt w.heap.size w f k n wr) (fun i _ => 16 - (intOf i).toNat)
  case atStart =>
    refine ⟨0, by omega, rfl, ?_, ?_, ?_, ?_⟩
    · exact (((RowAt.new w 16 (yv f) 52).alloc _).alloc _).congr (fun j _ => by simp [yv])
    · have := (RowAt.new (w.alloc (Obj.cells (row 16 (yv f)).toArray 52)) 16 (yv k) 52).alloc (Obj.cells Y16 52)
      simpa using this
    · have := RowAt.newOf ((w.alloc (Obj.cells (row 16 (yv f)).toArray 52)).alloc (Obj.cells (row 16 (yv k)).toArray 52)) 16 (yv fun _ => 0#8) 52 Y16 (fun j hj => Y16_get j hj _ rfl)
      simpa using this
    · exact (((Below.refl _ _).alloc (Nat.le_refl _) _).alloc (by simp) _).alloc (by simp; omega) _
  case round =>
    obtain ⟨n, hn, rfl, hT⟩ := hrel
    by_cases hlt : n < 16
    · have HT := hideit hT
      obtain ⟨h1, h2, _, _⟩ := hT
      have e1 := h1.1 n hlt
      have e2 := h2.1 n hlt
      have g1 := h1.2.1 n hlt
      simp only [yv, if_neg (Nat.lt_irrefl n)] at e1 e2
      clear h1 h2
      have b1 := (f n).isLt
      have b2 := (k n).isLt
      have o1 : bits .xor .u8 ((f n).toNat : Int) ((k n).toNat : Int) = ((addF f k n).toNat : Int) := xB_fact _ _
      have i0 : (0 : Int) ≤ (n : Int) := by omega
      have i1 : (n : Int) < 16 := by omega
      go_wp2
      go_region
      all_goals (try go_wp2)
      go_roundw
      case rel =>
        first | exact ⟨(n + 1 : Nat), by omega, by go_num, HT.out.step⟩ | ((repeat apply Exists.intro); exact ⟨⟨n + 1, by omega, by go_num, HT.out.step⟩, rfl⟩)
      case measure => simp [intOf]; omega
    · obtain rfl : n = 16 := by omega
      obtain ⟨h1, _, h3, hB⟩ := hT
      have HR := hideit (h1.congr (g' := yv (addF f k)) (fun j hj => by simp [yv, hj]))
      have HR0 := hideit h3
      clear h1 h3
      go_wp2_with (first | (refine wpList_load_mid rfl 52 (.tmp 2) rfl _ 0 rfl (row 16 (yv (addF f k))) _ HR.out.range Tryz.underlying52 rfl (by rw [row_length]; exact info32) ?_) | (refine wpList_store_mid rfl 52 (.tmp 4) (.tmp 19) rfl _ 0 (row 16 (yv (addF f k))).toArray rfl rfl (by rw [row_size]; exact HR0.out.there) (by rw [row_size]; exact info32) (row_one fun _ _ => rfl) ?_))
      exact bodyPost_ret (ret_row Tryz.results109 rfl (HR0.out.cells (g' := yv (addF f k))) Tryz.underlying52 rfl info32) rfl ⟨rfl, below_setCells _ (by omega) _ _ _ hB⟩
def ShiftAt (B : Nat) (w : World) (f : Nat → BitVec 8) (i : Nat) (X : World) : Prop :=
  RowAt B 16 (yv f) X ∧ RowAt (B + 1) 16 (yv fun _ => 0#8) X ∧ RowAt (B + 1 + 1) 16 (yv fun j => if j < i then turnF 1 f j else 0#8) X ∧ Below B w X
theorem ShiftAt.step {B : Nat} {w X : World} {f : Nat → BitVec 8} {i : Nat} (h : ShiftAt B w f i X) : ShiftAt B w f (i + 1) (X.setCell ⟨B + 1 + 1, i, none⟩ (.int .u8 ((turnF 1 f i).toNat : Int))) := by
  obtain ⟨h1, h2, h3, h4⟩ := h
  refine ⟨h1.other _ _ (by simp; omega), h2.other _ _ (by simp), (h3.set i _).congr ?_, h4.setCell (by simp; omega) _⟩
  intro j _
  by_cases e : j = i
  · subst e; simp [yv]
  · have : (j < i + 1) ↔ (j < i) := by omega
    simp [yv, e, this]
theorem shift_at : ∀ c, c < 4 → ∀ r, r < 4 → (4 * c + r + 4 * ((4 * c + r) % 4) * 1) % 16 = 4 * ((c + r) % 4) + r := by decide
set_option maxRecDepth 20000 in
set_option maxHeartbeats 1000000 in
theorem shift_any (f : Nat → BitVec 8) (w : World) :
    Calls Tryz.prog 110 #[.agg (row 16 (yv f)).toArray] w fun e w' => e = .returned (.agg (row 16 (yv (turnF 1 f))).toArray) ∧ Below w.heap.size w w' := by
  have hz := store_Y16
  have HS : ShiftAt w.heap.size w f (4 * 0) (((w.alloc (.cells (row 16 (yv f)).toArray 52)).alloc (.cells (row 16 (yv fun _ => 0#8)).toArray 52)).alloc (.cells (row 16 (yv fun _ => 0#8)).toArray 52)) := by
    refine ⟨((RowAt.new w 16 (yv f) 52).alloc _).alloc _, ?_, ?_, (((Below.refl _ _).alloc (Nat.le_refl _) _).alloc (by simp) _).alloc (by simp; omega) _⟩
    · have := (RowAt.new (w.alloc (Obj.cells (row 16 (yv f)).toArray 52)) 16 (yv fun _ => 0#8) 52).alloc (.cells (row 16 (yv fun _ => 0#8)).toArray 52)
      simpa using this
    · have := RowAt.new ((w.alloc (Obj.cells (row 16 (yv f)).toArray 52)).alloc (Obj.cells (row 16 (yv fun _ => 0#8)).toArray 52)) 16 (yv fun _ => 0#8) 52
      simpa using this
  replace HS := hideit HS
  go_enter Tryz.func110, Tryz.ntmps110
  go_wp2
  go_loopw [4] (fun i wr => ∃ n : Nat, n ≤ 4 ∧ i = .int .i64 n ∧ ShiftAt w.heap.size w f (4 * n) wr) (fun i _ => 4 - (intOf i).toNat)
  case atStart => exact ⟨0, by omega, rfl, HS.out⟩
  case round =>
    obtain ⟨n, hn, rfl, hT⟩ := hrel
    have HT := hideit hT
    clear hT HS
    by_cases hlt : n < 4
    · have i1 : (n : Int) < 4 := by omega
      go_wp2
      go_loopw [5] (fun i wr => ∃ m : Nat, m ≤ 4 ∧ i = .int .i64 m ∧ ShiftAt w.heap.size w f (4 * n + m) wr) (fun i _ => 4 - (intOf i).toNat)
      case atStart => exact ⟨0, by omega, rfl, HT.out⟩
      case round =>
        obtain ⟨m, hm, rfl, hT⟩ := hrel
        have HV := hideit hT
        clear hT HT
        by_cases hlt4 : m < 4
        · have m1 : (m : Int) < 4 := by omega
          obtain ⟨z, hz0⟩ : ∃ z : Nat, z = (n + m) % 4 := ⟨_, rfl⟩
          have hz4 : z < 4 := by omega
          have hzi : (z : Int) < 4 := by omega
          have ht : ((n : Int) + (m : Int)).tmod 4 = (z : Int) := by
            rw [Int.tmod_eq_emod_of_nonneg (by omega), hz0]
            omega
          have e1 : wr.cell? ⟨w.heap.size, 4 * z + m, none⟩ = some (.int .u8 ((turnF 1 f (4 * n + m)).toNat : Int)) := by
            rw [HV.out.1.1 (4 * z + m) (by omega), hz0]
            simp only [yv, turnF]
            rw [shift_at n hlt m hlt4]
          have e2 := HV.out.2.2.1.1 (4 * n + m) (by omega)
          have g2 := HV.out.2.2.1.2.1 (4 * n + m) (by omega)
          replace hz0 := hideit hz0
          go_wp2
          go_roundw
          case rel =>
            first | exact ⟨(m + 1 : Nat), by omega, by go_num, HV.out.step⟩ | ((repeat apply Exists.intro); exact ⟨⟨m + 1, by omega, by go_num, HV.out.step⟩, rfl⟩)
          case measure => simp [intOf]; omega
        · obtain rfl : m = 4 := by omega
          go_wp2
          go_roundw
          case rel =>
            have HI : ShiftAt w.heap.size w f (4 * (n + 1)) wr := HV.out
            first | exact ⟨(n + 1 : Nat), by omega, by go_num, HI⟩ | ((repeat apply Exists.intro); exact ⟨⟨n + 1, by omega, by go_num, HI⟩, rfl⟩)
          case measure => simp [intOf]; omega
    · obtain rfl : n = 4 := by omega
      have HR := hideit (HT.out.2.2.1.congr (g' := yv (turnF 1 f)) (fun j hj => by simp only [yv]; rw [if_pos (by omega)]))
      have HR0 := hideit HT.out.2.1
      have HB := hideit HT.out.2.2.2
      clear HT
      go_wp2_with (first | (refine wpList_load_mid rfl 52 (.tmp 3) rfl _ 0 rfl (row 16 (yv (turnF 1 f))) _ HR.out.range Tryz.underlying52 rfl (by rw [row_length]; exact info32) ?_) | (refine wpList_store_mid rfl 52 (.tmp 2) (.tmp 28) rfl _ 0 (row 16 (yv (turnF 1 f))).toArray rfl rfl (by rw [row_size]; exact HR0.out.there) (by rw [row_size]; exact info32) (row_one fun _ _ => rfl) ?_))
      exact bodyPost_ret (ret_row Tryz.results110 rfl (HR0.out.cells (g' := yv (turnF 1 f))) Tryz.underlying52 rfl info32) rfl ⟨rfl, below_setCells _ (by omega) _ _ _ HB.out⟩
end Go.Proofs.YtfpfgbhdehbggaaGreatDoor
namespace Go.Proofs.YtfpfgbhdehbggaaGreatDoor
set_option maxRecDepth 20000
open Go.RowKit Go.BigFrame
structure RCip (c kb cap N : Nat) (K bx ub : Nat → BitVec 8) (X : World) : Prop where
  head : X.cell? ⟨c, 0, none⟩ = some (.slice (some ⟨kb, 0, none⟩) N cap)
  box : ∀ j, j < 256 → X.cell? ⟨c, 1 + j, none⟩ = some (.int .u8 ((bx j).toNat : Int))
  unbox : ∀ j, j < 256 → X.cell? ⟨c, 257 + j, none⟩ = some (.int .u8 ((ub j).toNat : Int))
  keys : ∀ j, j < 16 * N → X.cell? ⟨kb, j, none⟩ = some (.int .u8 ((K j).toNat : Int))
  inC : c < X.heap.size
  inK : kb < X.heap.size
section
variable {c kb cap N : Nat} {K bx ub : Nat → BitVec 8} {X Y : World}
theorem RCip.below {B : Nat} (h : RCip c kb cap N K bx ub X) (hc : c < B) (hk : kb < B) (hB : Below B X Y) : RCip c kb cap N K bx ub Y :=
  ⟨(hB.cell (p := ⟨c, 0, none⟩) hc).trans h.head, fun j hj => (hB.cell (p := ⟨c, 1 + j, none⟩) hc).trans (h.box j hj), fun j hj => (hB.cell (p := ⟨c, 257 + j, none⟩) hc).trans (h.unbox j hj),
    fun j hj => (hB.cell (p := ⟨kb, j, none⟩) hk).trans (h.keys j hj), Nat.lt_of_lt_of_le h.inC hB.size, Nat.lt_of_lt_of_le h.inK hB.size⟩
theorem RCip.carry (h : RCip c kb cap N K bx ub X) (hB : Below X.heap.size X Y) : RCip c kb cap N K bx ub Y := h.below h.inC h.inK hB
theorem RCip.drew (h : RCip c kb cap N K bx ub X) : RCip c kb cap N K bx ub X.drew := h.carry ((Below.refl _ _).drew)
theorem RCip.other (h : RCip c kb cap N K bx ub X) (b : Nat) (h1 : b ≠ c) (h2 : b ≠ kb) (vs : List Value) (o : Nat) : RCip c kb cap N K bx ub (X.setCells b o vs) :=
  ⟨by rw [World.cell?_setCells_out b vs o X _ (fun e => absurd e.symm h1)]; exact h.head, fun j hj => by rw [World.cell?_setCells_out b vs o X _ (fun e => absurd e.symm h1)]; exact h.box j hj, fun j hj => by rw [World.cell?_setCells_out b vs o X _ (fun e => absurd e.symm h1)]; exact h.unbox j hj,
    fun j hj => by rw [World.cell?_setCells_out b vs o X _ (fun e => absurd e.symm h2)]; exact h.keys j hj, by rw [size_setCells]; exact h.inC, by rw [size_setCells]; exact h.inK⟩
theorem RCip.otherCell (h : RCip c kb cap N K bx ub X) (b i : Nat) (h1 : b ≠ c) (h2 : b ≠ kb) (v : Value) : RCip c kb cap N K bx ub (X.setCell ⟨b, i, none⟩ v) := h.other b h1 h2 [v] i
theorem RCip.key (h : RCip c kb cap N K bx ub X) (n : Nat) (hn : n < N) : X.rangeAt kb (n * 16) (row 16 (yv (kF K n))) := fun j v hvA => by
  obtain ⟨hj, rfl⟩ := row_some hvA
  rw [h.keys (n * 16 + j) (by omega)]
  rfl
end
def RSt (c kb cap N : Nat) (K bx ub : Nat → BitVec 8) (B : Nat) (w : World) (f : Nat → BitVec 8) (X : World) : Prop :=
  RowAt B 16 (yv f) X ∧ RowAt (B + 1) 16 (yv fun _ => 0#8) X ∧ RCip c kb cap N K bx ub X ∧ Below B w X
section
variable {c kb cap N B : Nat} {K bx ub f : Nat → BitVec 8} {w X Y : World}
theorem RSt.ext (h : RSt c kb cap N K bx ub B w f X) (hB : w.heap.size = B) (k : Ext X Y) : RSt c kb cap N K bx ub B w f Y :=
  ⟨h.1.carry k, h.2.1.carry k, h.2.2.1.carry k, Below.trans h.2.2.2 (Below.mono k (by have := Below.size h.2.2.2; omega))⟩
theorem RSt.draw (h : RSt c kb cap N K bx ub B w f X) (hB : w.heap.size = B) (k : Ext X.drew Y) : RSt c kb cap N K bx ub B w f Y :=
  RSt.ext (X := X.drew) ⟨h.1.drew, h.2.1.drew, h.2.2.1.drew, h.2.2.2.drew⟩ hB k
theorem RSt.put (h : RSt c kb cap N K bx ub B w f X) (hc : c < B) (hk : kb < B) (g : Nat → BitVec 8) : RSt c kb cap N K bx ub B w g (X.setCells B 0 (row 16 (yv g))) :=
  ⟨h.1.cells, h.2.1.cellsOther (by omega) _ _, h.2.2.1.other B (by omega) (by omega) _ _, below_setCells _ (Nat.le_refl _) _ _ _ h.2.2.2⟩
theorem RSt.byte (h : RSt c kb cap N K bx ub B w f X) (hc : c < B) (hk : kb < B) (i : Nat) (v : BitVec 8) (g : Nat → BitVec 8) (hg : ∀ j, j < 16 → (if j = i then v else f j) = g j) : RSt c kb cap N K bx ub B w g (X.setCell ⟨B, i, none⟩ (.int .u8 (v.toNat : Int))) := by
  refine ⟨(h.1.set i _).congr fun j hj => ?_, h.2.1.other _ _ (by simp), h.2.2.1.otherCell B i (by omega) (by omega) _, h.2.2.2.setCell (by simp) _⟩
  have := hg j hj
  simp only [yv]
  by_cases e : j = i
  · rw [if_pos e] at this ⊢; rw [this]
  · rw [if_neg e] at this ⊢; rw [this]
end
def rplP (t f : Nat → BitVec 8) (i j : Nat) : BitVec 8 := if j < i then replF t f j else f j
theorem rplP_zero (t f : Nat → BitVec 8) : rplP t f 0 = f := by funext j; unfold rplP; rw [if_neg (by omega)]
theorem rplP_step (t f : Nat → BitVec 8) (i j : Nat) : (if j = i then replF t f i else rplP t f i j) = rplP t f (i + 1) j := by
  unfold rplP
  by_cases e : j = i
  · subst e; rw [if_pos rfl, if_pos (by omega)]
  · rw [if_neg e]; simp only [show (j < i + 1) ↔ (j < i) by omega]
theorem rplP_self (t f : Nat → BitVec 8) (i : Nat) : rplP t f i i = f i := by unfold rplP; rw [if_neg (by omega)]
def fac (a b c d : BitVec 8) (j : Nat) : BitVec 8 := if j = 0 then a else if j = 1 then b else if j = 2 then c else d
def rencM (N : Nat) (n : Nat) (f : Nat → BitVec 8) : Nat → BitVec 8 := if n < N - 1 then rmixF (fac 2#8 3#8 1#8 1#8) f else f
def rencK (N : Nat) (K bx f : Nat → BitVec 8) : Nat → Nat → BitVec 8
  | 0 => addF f (kF K 0)
  | n + 1 => addF (rencM N (n + 1) (turnF 1 (replF bx (rencK N K bx f n)))) (kF K (n + 1))
theorem fac_row1 : (Value.agg (((((row 4 (yv fun _ => 0#8)).set 0 (.int .u8 2)).set 1 (.int .u8 3)).set 2 (.int .u8 1)).set 3 (.int .u8 1)).toArray) = .agg (row 4 (yv (fac 2#8 3#8 1#8 1#8))).toArray := rfl
theorem zero63'' (w : World) : Sem.run Tryz.prog (zeroValue 129) w = .ok (.agg (row 4 (yv fun _ => 0#8)).toArray) w := by kernel_rfl
set_option maxRecDepth 20000 in
set_option maxHeartbeats 2000000 in
theorem renc_any (c kb cap N : Nat) (K bx ub f : Nat → BitVec 8) (hN : 1 ≤ N) (hN2 : N ≤ 15) (w : World) (h : RCip c kb cap N K bx ub w) :
    Calls Tryz.prog 93 #[.pointer (some ⟨c, 0, none⟩), .agg (row 16 (yv f)).toArray] w fun e w' => e = .returned (.agg (row 16 (yv (rencK N K bx f (N - 1)))).toArray) ∧ Below w.heap.size w w' := by
  have hz := store_Y16
  have hz4 := zero63''
  have hcs : c < w.heap.size := h.inC
  have hks : kb < w.heap.size := h.inK
  have hcb : ¬ (c = w.heap.size) := by omega
  have hcb2 : ¬ (w.heap.size = c) := by omega
  have HS : RSt c kb cap N K bx ub w.heap.size w f ((w.alloc (.cells (row 16 (yv f)).toArray 52)).alloc (.cells (row 16 (yv fun _ => 0#8)).toArray 52)) := by
    refine ⟨(RowAt.new w 16 (yv f) 52).alloc _, ?_, h.carry (((Below.refl _ _).alloc (Nat.le_refl _) _).alloc (by simp) _), ((Below.refl _ _).alloc (Nat.le_refl _) _).alloc (by simp) _⟩
    have := RowAt.new (w.alloc (.cells (row 16 (yv f)).toArray 52)) 16 (yv fun _ => 0#8) 52
    simpa using this
  replace HS := hideit HS
  clear h
  have iN : (1 : Int) ≤ (N : Int) := by omega
  go_enter Tryz.func93, Tryz.ntmps93
  go_upto_region 1 with fail
  generalize (w.alloc (.cells (row 16 (yv f)).toArray 52)).alloc (.cells (row 16 (yv fun _ => 0#8)).toArray 52) = W at *
  have e0 : ∀ k : Kept (Ext W.drew), k.w.cell? ⟨c, 0, none⟩ = some (.slice (some ⟨kb, 0, none⟩) N cap) := fun k => (HS.out.2.2.1.drew.carry k.ok).head
  have i0 : (0 : Int) < (N : Int) := by omega
  have hne := kept_ne (W).drew
  refine wp_region_late 8 (by kernel_rfl) (by kernel_rfl) (by decide) ?_
  simp only [List.take_succ_cons, List.take_zero, List.drop_succ_cons, List.drop_zero]
  refine wpStrong_run 7 rfl ?_
  simp only [List.take_succ_cons, List.take_zero, List.drop_succ_cons, List.drop_zero]
  go_big_quiet_want
  refine load16 (.tmp 3) _ 0 (f) rfl rfl (fun w' hw' => (HS.out.1.drew.carry hw').range) ?_
  simp only [zp0, zp1, zp2, zp3]
  go_big_quiet_on
  repeat (go_big_quiet_step (fail))
  go_big_quiet_want
  refine load16 (.tmp 12) _ 0 (kF K 0) rfl rfl (fun w' hw' => by have h1 := (HS.out.2.2.1.drew.carry hw').key 0 (by omega); simpa using h1) ?_
  simp only [zp0, zp1, zp2, zp3]
  go_big_quiet_on
  refine wpQuiet_nil ?_
  refine wpStrong_call rfl (fun X => by simp [go_sem]) (fun X hX => radd_any f (kF K 0) X) ?_
  simp only [zp0, zp1, zp2, zp3]
  refine wpStrong_nil ?_
  intro X hX
  have HX := hideit (HS.out.draw rfl hX)
  clear hX HS e0
  refine wpList_store_mid rfl 52 (.tmp 3) (.tmp 14) rfl _ 0 (row 16 (yv (addF f (kF K 0)))).toArray rfl rfl (by rw [row_size]; exact HX.out.1.there) (by rw [row_size]; exact info32) (row_one fun _ _ => rfl) ?_
  have HY := hideit (HX.out.put hcs hks (addF f (kF K 0)))
  clear HX
  generalize X.setCells w.heap.size 0 (row 16 (yv (addF f (kF K 0)))) = Y at *
  go_wp2
  go_loopw [5] (fun i wr => ∃ n : Nat, 1 ≤ n ∧ n ≤ N ∧ i = .int .i64 n ∧ RSt c kb cap N K bx ub w.heap.size w (rencK N K bx f (n - 1)) wr) (fun i _ => N - (intOf i).toNat)
  case atStart => exact ⟨1, by omega, by omega, rfl, HY.out⟩
  case round =>
    obtain ⟨n, hn1, hn, rfl, hT⟩ := hrel
    have HT := hideit hT
    have e0 := hT.2.2.1.head
    clear hT HY
    by_cases hlt : n < N
    · have n1 : (n : Int) < (N : Int) := by omega
      have n0 : (0 : Int) ≤ (n : Int) := by omega
      obtain ⟨S, hS⟩ : ∃ S, S = rencK N K bx f (n - 1) := ⟨_, rfl⟩
      rw [← hS] at HT
      have hnext : rencK N K bx f (n + 1 - 1) = addF (rencM N n (turnF 1 (replF bx S))) (kF K n) := by
        obtain ⟨m, rfl⟩ : ∃ m, n = m + 1 := ⟨n - 1, by omega⟩
        rw [hS, Nat.add_sub_cancel, Nat.add_sub_cancel]
        rfl
      replace hS := hideit hS
      replace hnext := hideit hnext
      go_upto_region 6 with fail
      have hz0 := hideit (rplP_zero bx S)
      go_loopw [6] (fun i wr => ∃ m : Nat, m ≤ 16 ∧ i = .int .i64 m ∧ RSt c kb cap N K bx ub w.heap.size w (rplP bx S m) wr) (fun i _ => 16 - (intOf i).toNat)
      case atStart => exact ⟨0, by omega, rfl, by rw [hz0.out]; exact HT.out⟩
      case round =>
        obtain ⟨m, hm, rfl, hT⟩ := hrel
        have HV := hideit hT
        clear hT HT e0 hz0
        by_cases hlm : m < 16
        · have m0 : (0 : Int) ≤ (m : Int) := by omega
          have m1 : (m : Int) < 16 := by omega
          have sl1 := (S m).isLt
          have sl2 : ((S m).toNat : Int) < 256 := by omega
          have e1 : ∀ k : Kept (Ext wr.drew), k.w.cell? ⟨w.heap.size, m, none⟩ = some (.int .u8 ((S m).toNat : Int)) := fun k => by
            rw [(HV.out.1.drew.carry k.ok).1 m hlm]
            simp only [yv, rplP_self]
          have e2 : ∀ k : Kept (Ext wr.drew), k.w.cell? ⟨c, 1 + (S m).toNat, none⟩ = some (.int .u8 ((replF bx S m).toNat : Int)) := fun k => (HV.out.2.2.1.drew.carry k.ok).box _ sl1
          go_upto_region 8 with fail
          have hne := kept_ne (wr).drew
          refine wp_region_late 10 (by kernel_rfl) (by kernel_rfl) (by decide) ?_
          simp only [List.take_succ_cons, List.take_zero, List.drop_succ_cons, List.drop_zero]
          refine wpStrong_run 10 rfl ?_
          simp only [List.take_succ_cons, List.take_zero, List.drop_succ_cons, List.drop_zero]
          repeat (go_big_quiet_step (fail))
          refine wpQuiet_nil ?_
          refine wpStrong_nil ?_
          intro X hX
          have HX := hideit (HV.out.draw rfl hX)
          clear hX e1 e2
          have e3 := HX.out.1.1 m hlm
          have g3 := HX.out.1.2.1 m hlm
          have HI := hideit (HX.out.byte hcs hks m (replF bx S m) (rplP bx S (m + 1)) (fun j _ => rplP_step bx S m j))
          go_wp2
          go_roundw
          case rel =>
            first | exact ⟨(m + 1 : Nat), by omega, by go_num, HI.out⟩ | ((repeat apply Exists.intro); exact ⟨⟨m + 1, by omega, by go_num, HI.out⟩, rfl⟩)
          case measure => simp [intOf]; omega
        · obtain rfl : m = 16 := by omega
          have HA : RSt c kb cap N K bx ub w.heap.size w (replF bx S) wr := ⟨HV.out.1.congr (fun j hj => by simp only [yv, rplP]; rw [if_pos hj]), HV.out.2⟩
          replace HA := hideit HA
          clear HV
          go_upto_region 10 with (first | (refine wpList_load_mid rfl 52 (.tmp 3) rfl _ 0 rfl (row 16 (yv (replF bx S))) _ HA.out.1.range Tryz.underlying52 rfl (by rw [row_length]; exact info32) ?_) | (go_at_call 110; refine (shift_any (replF bx S) _).mono ?_; rintro e w2 ⟨rfl, hw2⟩; have HA2 := hideit (HA.out.ext rfl hw2); clear hw2) | (refine wpList_store_mid rfl 52 (.tmp 3) (.tmp 39) rfl _ 0 (row 16 (yv (turnF 1 (replF bx S)))).toArray rfl rfl (by rw [row_size]; exact HA2.out.1.there) (by rw [row_size]; exact info32) (row_one fun _ _ => rfl) ?_))
          have HB := hideit (HA2.out.put hcs hks (turnF 1 (replF bx S)))
          clear HA HA2
          generalize w2.setCells w.heap.size 0 (row 16 (yv (turnF 1 (replF bx S)))) = Y2 at *
          have e0 := HB.out.2.2.1.head
          by_cases hl2 : n < N - 1
          · have hl3 : (n : Int) < (N : Int) - 1 := by omega
            have hM : rencM N n (turnF 1 (replF bx S)) = rmixF (fac 2#8 3#8 1#8 1#8) (turnF 1 (replF bx S)) := by unfold rencM; rw [if_pos hl2]
            rw [hM] at hnext
            have hfr := hideit fac_row1
            go_upto_region 12 with (first | (refine wpList_load_mid rfl 52 (.tmp 3) rfl _ 0 rfl (row 16 (yv (turnF 1 (replF bx S)))) _ HB.out.1.range Tryz.underlying52 rfl (by rw [row_length]; exact info32) ?_) | (go_at_call 111; rw [hfr.out]; refine (rmix_any (fac 2#8 3#8 1#8 1#8) (turnF 1 (replF bx S)) _).mono ?_; rintro e w3 ⟨rfl, hw3⟩; have HB2 := hideit (HB.out.ext rfl hw3); clear hw3) | (refine wpList_store_mid rfl 52 (.tmp 3) (.tmp 50) rfl _ 0 (row 16 (yv (rmixF (fac 2#8 3#8 1#8 1#8) (turnF 1 (replF bx S))))).toArray rfl rfl (by rw [row_size]; exact HB2.out.1.there) (by rw [row_size]; exact info32) (row_one fun _ _ => rfl) ?_))
            have HD := hideit (HB2.out.put hcs hks (rmixF (fac 2#8 3#8 1#8 1#8) (turnF 1 (replF bx S))))
            clear HB HB2 e0 hM hfr
            generalize w3.setCells w.heap.size 0 (row 16 (yv (rmixF (fac 2#8 3#8 1#8 1#8) (turnF 1 (replF bx S))))) = Y3 at *
            generalize rmixF (fac 2#8 3#8 1#8 1#8) (turnF 1 (replF bx S)) = U at *
            have e0 : ∀ k : Kept (Ext Y3.drew), k.w.cell? ⟨c, 0, none⟩ = some (.slice (some ⟨kb, 0, none⟩) N cap) := fun k => (HD.out.2.2.1.drew.carry k.ok).head
            try simp only [Act.put]
            have hne := kept_ne (Y3).drew
            refine wp_region_late 9 (by kernel_rfl) (by kernel_rfl) (by decide) ?_
            simp only [List.take_succ_cons, List.take_zero, List.drop_succ_cons, List.drop_zero]
            refine wpStrong_run 8 rfl ?_
            simp only [List.take_succ_cons, List.take_zero, List.drop_succ_cons, List.drop_zero]
            go_big_quiet_want
            refine load16 (.tmp 3) _ 0 (U) rfl rfl (fun w' hw' => (HD.out.1.drew.carry hw').range) ?_
            simp only [zp0, zp1, zp2, zp3]
            go_big_quiet_on
            repeat (go_big_quiet_step (fail))
            go_big_quiet_want
            refine load16 (.tmp 57) _ (n * 16) (kF K n) rfl rfl (fun w' hw' => (HD.out.2.2.1.drew.carry hw').key n hlt) ?_
            simp only [zp0, zp1, zp2, zp3]
            go_big_quiet_on
            refine wpQuiet_nil ?_
            refine wpStrong_call rfl (fun X => by simp [go_sem]) (fun X hX => radd_any U (kF K n) X) ?_
            simp only [zp0, zp1, zp2, zp3]
            refine wpStrong_nil ?_
            rw [← hnext.out]
            intro X hX
            have HX := hideit (HD.out.draw rfl hX)
            clear hX HD e0 hnext
            generalize hG : rencK N K bx f (n + 1 - 1) = G at *
            refine wpList_store_mid rfl 52 (.tmp 3) (.tmp 59) rfl _ 0 (row 16 (yv (G))).toArray rfl rfl (by rw [row_size]; exact HX.out.1.there) (by rw [row_size]; exact info32) (row_one fun _ _ => rfl) ?_
            have HI := hideit (HX.out.put hcs hks G)
            clear HX
            generalize X.setCells w.heap.size 0 (row 16 (yv G)) = V at *
            rw [← hG] at HI
            clear hG
            go_wp2
            go_roundw
            case rel =>
              first | exact ⟨(n + 1 : Nat), by omega, by omega, by go_num, HI.out⟩ | ((repeat apply Exists.intro); exact ⟨⟨n + 1, by omega, by omega, by go_num, HI.out⟩, rfl⟩)
            case measure => simp [intOf]; omega
          · have hl3 : ¬ ((n : Int) < (N : Int) - 1) := by omega
            have hM : rencM N n (turnF 1 (replF bx S)) = turnF 1 (replF bx S) := by unfold rencM; rw [if_neg hl2]
            rw [hM] at hnext
            have HD := HB
            clear hM
            go_upto_region 12 with fail
            clear HB e0
            generalize turnF 1 (replF bx S) = U at *
            have e0 : ∀ k : Kept (Ext Y2.drew), k.w.cell? ⟨c, 0, none⟩ = some (.slice (some ⟨kb, 0, none⟩) N cap) := fun k => (HD.out.2.2.1.drew.carry k.ok).head
            try simp only [Act.put]
            have hne := kept_ne (Y2).drew
            refine wp_region_late 9 (by kernel_rfl) (by kernel_rfl) (by decide) ?_
            simp only [List.take_succ_cons, List.take_zero, List.drop_succ_cons, List.drop_zero]
            refine wpStrong_run 8 rfl ?_
            simp only [List.take_succ_cons, List.take_zero, List.drop_succ_cons, List.drop_zero]
            go_big_quiet_want
            refine load16 (.tmp 3) _ 0 (U) rfl rfl (fun w' hw' => (HD.out.1.drew.carry hw').range) ?_
            simp only [zp0, zp1, zp2, zp3]
            go_big_quiet_on
            repeat (go_big_quiet_step (fail))
            go_big_quiet_want
            refine load16 (.tmp 57) _ (n * 16) (kF K n) rfl rfl (fun w' hw' => (HD.out.2.2.1.drew.carry hw').key n hlt) ?_
            simp only [zp0, zp1, zp2, zp3]
            go_big_quiet_on
            refine wpQuiet_nil ?_
            refine wpStrong_call rfl (fun X => by simp [go_sem]) (fun X hX => radd_any U (kF K n) X) ?_
            simp only [zp0, zp1, zp2, zp3]
            refine wpStrong_nil ?_
            rw [← hnext.out]
            intro X hX
            have HX := hideit (HD.out.draw rfl hX)
            clear hX HD e0 hnext
            generalize hG : rencK N K bx f (n + 1 - 1) = G at *
            refine wpList_store_mid rfl 52 (.tmp 3) (.tmp 59) rfl _ 0 (row 16 (yv (G))).toArray rfl rfl (by rw [row_size]; exact HX.out.1.there) (by rw [row_size]; exact info32) (row_one fun _ _ => rfl) ?_
            have HI := hideit (HX.out.put hcs hks G)
            clear HX
            generalize X.setCells w.heap.size 0 (row 16 (yv G)) = V at *
            rw [← hG] at HI
            clear hG
            go_wp2
            go_roundw
            case rel =>
              first | exact ⟨(n + 1 : Nat), by omega, by omega, by go_num, HI.out⟩ | ((repeat apply Exists.intro); exact ⟨⟨n + 1, by omega, by omega, by go_num, HI.out⟩, rfl⟩)
            case measure => simp [intOf]; omega
    · obtain rfl : n = N := by omega
      obtain ⟨G, hG⟩ : ∃ G, G = rencK n K bx f (n - 1) := ⟨_, rfl⟩
      rw [← hG] at HT
      replace hG := hideit hG
      go_wp2_with (first | (refine wpList_load_mid rfl 52 (.tmp 3) rfl _ 0 rfl (row 16 (yv G)) _ HT.out.1.range Tryz.underlying52 rfl (by rw [row_length]; exact info32) ?_) | (refine wpList_store_mid rfl 52 (.tmp 4) (.tmp 60) rfl _ 0 (row 16 (yv G)).toArray rfl rfl (by rw [row_size]; exact HT.out.2.1.there) (by rw [row_size]; exact info32) (row_one fun _ _ => rfl) ?_))
      exact bodyPost_ret (ret_row Tryz.results93 rfl (HT.out.2.1.cells (g' := yv G)) Tryz.underlying52 rfl info32) rfl ⟨by rw [hG.out], below_setCells _ (by omega) _ _ _ HT.out.2.2.2⟩
end Go.Proofs.YtfpfgbhdehbggaaGreatDoor
namespace Go.Proofs.YtfpfgbhdehbggaaGreatDoor
set_option maxRecDepth 20000
open Go.RowKit Go.BigFrame
def rcv (bx ub : Nat → BitVec 8) (j : Nat) : Value := if j = 0 then .slice none 0 0 else if j < 257 then yv bx (j - 1) else yv ub (j - 257)
theorem rcv_step (n : Nat) (hn : n < 256) (j : Nat) (hj : j < 513) : (if j = 257 + (bxT n).toNat then (Value.int .u8 (n : Int)) else rcv bxT (ubP n) j) = rcv bxT (ubP (n + 1)) j := by
  have hb := (bxT n).isLt
  unfold rcv
  by_cases h0 : j = 0
  · rw [if_neg (by omega), if_pos h0, if_pos h0]
  by_cases h1 : j < 257
  · rw [if_neg (by omega), if_neg h0, if_pos h1, if_neg h0, if_pos h1]
  · rw [if_neg h0, if_neg h1, if_neg h0, if_neg h1]
    by_cases e : j = 257 + (bxT n).toNat
    · subst e
      rw [if_pos rfl]
      simp only [yv, ubP, show 257 + (bxT n).toNat - 257 = (bxT n).toNat by omega, ub_bx n]
      rw [if_pos (by simp; omega), of8 n hn]
    · rw [if_neg e]
      have hne : (ubT (j - 257)).toNat ≠ n := fun h => e (by have := ub_eq n (j - 257) hn (by omega) h; omega)
      simp only [yv, ubP, show ((ubT (j - 257)).toNat < n + 1) ↔ ((ubT (j - 257)).toNat < n) by omega]
end Go.Proofs.YtfpfgbhdehbggaaGreatDoor
