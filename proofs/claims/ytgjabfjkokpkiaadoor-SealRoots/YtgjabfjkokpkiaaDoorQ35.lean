/-
  Units enciphered: what is left, a whole block and a short one. Units enciphered and deciphered.
-/
import Derived.Test.YtgjabfjkokpkiaaDoorQ1
import Derived.Test.YtgjabfjkokpkiaaDoorQ34
namespace Go.Proofs.YtgjabfjkokpkiaaDoor
set_option maxRecDepth 20000
open Go.RowKit Go.BigFrame
def lendF (ch : BitVec 128 → (Nat → BitVec 8) → Nat → BitVec 8) (t1 : BitVec 128) (D : Nat → BitVec 8) (m : Nat) : Nat → BitVec 8 := ch t1 (fun i => D (m + i))
def fillFA (L D : Nat → BitVec 8) (m s i : Nat) : BitVec 8 := if i < s then D (m + 16 + i) else L i
def stealF (ch : BitVec 128 → (Nat → BitVec 8) → Nat → BitVec 8) (t1 t2 : BitVec 128) (F D : Nat → BitVec 8) (m s j : Nat) : BitVec 8 :=
  if j < m then F j else if j < m + 16 then ch t2 (fillFA (lendF ch t1 D m) D m s) (j - m) else lendF ch t1 D m (j - (m + 16))
set_option maxRecDepth 20000 in
set_option maxHeartbeats 2000000 in
theorem steal_none (m cap : Nat) (a : Addr) (t1 t2 : BitVec 128) (v : Value) (vc : Nat) (va : Option Addr) (hvA : v = .slice va m vc) (hcap : m ≤ cap) (hm : m ≤ 65536) (cv : Value) (w : World) :
    Calls Tryd.prog 62 #[v, .slice (some a) m cap, .agg #[.int .u64 ((lo t1).toNat : Int), .int .u64 ((hi t1).toNat : Int)], .agg #[.int .u64 ((lo t2).toNat : Int), .int .u64 ((hi t2).toNat : Int)], cv] w fun e w' => e = .returned v ∧ Ext w w' := by
  subst hvA
  have m0 : (0 : Int) ≤ (m : Int) := by omega
  have m1 : (m : Int) ≤ (cap : Int) := by omega
  have HE : Hid (Ext w ((w.alloc (.cells #[.int .u64 ((lo t1).toNat : Int), .int .u64 ((hi t1).toNat : Int)] 105)).alloc (.cells #[.int .u64 ((lo t2).toNat : Int), .int .u64 ((hi t2).toNat : Int)] 105))) := ((Below.refl _ _).alloc (Nat.le_refl _) _).alloc (by simp) _
  by_cases hcm : cap = m
  · subst hcm
    go_enter Tryd.func62, Tryd.ntmps62
    go_wp2
    go_ret
    exact ⟨rfl, HE.out⟩
  · go_enter Tryd.func62, Tryd.ntmps62
    go_wp2
    go_ret
    exact ⟨rfl, HE.out⟩
theorem cutS {ρ : Operand → Value} {o : Oper} (X : World) (d s : Nat) (hs : s < 16) (ho : o.op = .slice 35 (.tmp 13) none (some (.tmp 43)) none := by rfl) (h1 : ρ (.tmp 13) = .pointer (some ⟨d, 0, none⟩) := by rfl) (h2 : ρ (.tmp 43) = .int .i64 (s : Int) := by rfl) : (execOp ρ o).run Tryd.prog X = .ok (.value (.slice (some ⟨d, 0, none⟩) s 16)) X := by
  have i1 : (s : Int) ≤ 16 := by omega
  have i2 : (0 : Int) ≤ (s : Int) := by omega
  unfold execOp
  simp [ho, h1, h2, go_sem, i1, i2]
set_option maxRecDepth 20000 in
set_option maxHeartbeats 4000000 in
theorem steal_any (base m s cap : Nat) (a : Addr) (D F : Nat → BitVec 8) (t1 t2 : BitVec 128) (b : Nat) (ch : BitVec 128 → (Nat → BitVec 8) → Nat → BitVec 8) (v : Value) (w : World) (hs0 : 0 < s) (hs1 : s < 16) (hm : m + 16 + s ≤ 65536) (hcap : m + 16 + s ≤ cap) (hD : LieAt a (m + 16 + s) (yv D) w)
    (hO : OwnB base 5 v m (yv F) w) (hbase : base ≤ w.heap.size)
    (hch : ∀ X, Ext w X → ∀ t f, Calls Tryd.prog 76 #[.agg #[.int .u64 ((lo t).toNat : Int), .int .u64 ((hi t).toNat : Int)], .agg (row 16 (yv f)).toArray, .pointer (some ⟨b, 0, none⟩)] X fun e w' => e = .returned (.agg (row 16 (yv (ch t f))).toArray) ∧ Below X.heap.size X w') :
    Calls Tryd.prog 62 #[v, .slice (some a) (m + 16 + s) cap, .agg #[.int .u64 ((lo t1).toNat : Int), .int .u64 ((hi t1).toNat : Int)], .agg #[.int .u64 ((lo t2).toNat : Int), .int .u64 ((hi t2).toNat : Int)], betwV b] w fun e w' => ∃ v', e = .returned v' ∧ OwnB base 5 v' (m + 16 + s) (yv (stealF ch t1 t2 F D m s)) w' ∧ Below base w w' := by
  have hz := store_Y16
  obtain ⟨va, vc, hvA⟩ : ∃ va vc, v = .slice va m vc := by
    rcases hO.2 with ⟨h, h0⟩ | ⟨g, cap, cur, h, _⟩
    · exact ⟨none, 0, by rw [h, h0]⟩
    · exact ⟨_, cap, h⟩
  subst hvA
  replace hch := hideit hch
  replace hD := hideit hD
  replace hO := hideit hO
  unfold betwV
  obtain ⟨c, hc⟩ : ∃ c, c = w.heap.size := ⟨_, rfl⟩
  obtain ⟨W2, hW2⟩ : ∃ W2, W2 = (w.alloc (.cells #[.int .u64 ((lo t1).toNat : Int), .int .u64 ((hi t1).toNat : Int)] 105)).alloc (.cells #[.int .u64 ((lo t2).toNat : Int), .int .u64 ((hi t2).toNat : Int)] 105) := ⟨_, rfl⟩
  have HE2 : Ext w W2 := by rw [hW2]; exact ((Below.refl _ _).alloc (Nat.le_refl _) _).alloc (by simp) _
  have hs2 : W2.heap.size = c + 1 + 1 := by rw [hW2, hc]; simp
  have HH2 : RowAt c 2 (hvA t1) W2 := by rw [hW2, hc]; exact (RowAt.new w 2 (hvA t1) 105).alloc _
  have HZ2 : RowAt (c + 1) 2 (hvA t2) W2 := by
    have h : RowAt ((w.alloc (.cells #[.int .u64 ((lo t1).toNat : Int), .int .u64 ((hi t1).toNat : Int)] 105)).heap.size) 2 (hvA t2) ((w.alloc (.cells #[.int .u64 ((lo t1).toNat : Int), .int .u64 ((hi t1).toNat : Int)] 105)).alloc (.cells #[.int .u64 ((lo t2).toNat : Int), .int .u64 ((hi t2).toNat : Int)] 105)) := RowAt.new _ 2 (hvA t2) 105
    rw [hW2, hc]; simpa using h
  replace HE2 := hideit HE2
  replace HH2 := hideit HH2
  replace HZ2 := hideit HZ2
  replace hW2 := hideit hW2
  have i0 : (0 : Int) ≤ (m : Int) := by omega
  have i1 : (m : Int) ≤ (m : Int) + 16 + (s : Int) := by omega
  have i2 : (m : Int) ≤ (cap : Int) := by omega
  have i3 : (m : Int) + 16 + (s : Int) ≤ (cap : Int) := by omega
  have i4 : ¬ cap = m := by omega
  have i5 : ¬ cap - m = 16 := by omega
  have i6 : m + 16 + s - m = 16 + s := by omega
  have i7 : (s : Int) < 16 := by omega
  have i8 : (0 : Int) < (s : Int) := by omega
  have i9 : 16 ≤ cap - m := by omega
  go_enter Tryd.func62, Tryd.ntmps62
  go_upto_region 5 with (fail)
  rw [← hW2.out, ← hc]
  have hcw : w.heap.size ≤ c := by omega
  clear hc hW2
  obtain ⟨sa, hsa⟩ : ∃ sa : Addr, sa = ⟨(a.add m).block, (a.add m).off + 16, none⟩ := ⟨_, rfl⟩
  rw [← hsa]
  have hsa2 : sa = (a.add m).add 16 := hsa
  have HSA : Hid (∀ X, Ext w X → LieAt sa s (yv fun i => D (m + 16 + i)) X) := fun X hX => by
    have h1 := hD.out.carry hX
    refine ⟨fun j hj => ?_, by rw [hsa2, add_block, add_block]; exact h1.2⟩
    rw [hsa2, add_add', add_add', ← Nat.add_assoc, h1.1 (m + 16 + j) (by omega)]
    rfl
  have HLA : Hid (∀ X, Ext w X → LieAt (a.add m) (16 + s) (yv fun i => D (m + i)) X) := fun X hX => by
    have h1 := hD.out.carry hX
    refine ⟨fun j hj => ?_, by rw [add_block]; exact h1.2⟩
    rw [add_add', h1.1 (m + j) (by omega)]
    rfl
  clear hsa hsa2 i0 i1 i2 i3 i4 i5 i6 i9
  obtain ⟨f, hf⟩ : ∃ f : Nat → BitVec 8, f = fun i => D (m + i) := ⟨_, rfl⟩
  rw [← hf] at HLA
  obtain ⟨L, hL⟩ : ∃ L, L = ch t1 f := ⟨_, rfl⟩
  have hLL : Hid (L = lendF ch t1 D m) := by unfold Hid lendF; rw [hL, hf]
  have hcall1 : Hid (∀ X, Ext w X → Calls Tryd.prog 76 #[.agg #[.int .u64 ((lo t1).toNat : Int), .int .u64 ((hi t1).toNat : Int)], .agg (row 16 (yv f)).toArray, .pointer (some ⟨b, 0, none⟩)] X fun e w' => e = .returned (.agg (row 16 (yv L)).toArray) ∧ Below X.heap.size X w') := fun X hX => by rw [hL]; exact hch.out X hX t1 f
  clear hL hf
  have e0 : ∀ k : Kept (Ext W2.drew), k.w.cell? ⟨c, 0, none⟩ = some (.int .u64 ((lo t1).toNat : Int)) := fun k => (HH2.out.drew.carry k.ok).1 0 (by omega)
  have e1 : ∀ k : Kept (Ext W2.drew), k.w.cell? ⟨c, 1, none⟩ = some (.int .u64 ((hi t1).toNat : Int)) := fun k => (HH2.out.drew.carry k.ok).1 1 (by omega)
  have hne := kept_ne W2.drew
  refine wp_region_made 5 16 (yv fun _ => 0#8) _ (by kernel_rfl) (by kernel_rfl) rfl (makes23 rfl rfl) ?_
  simp only [List.take_succ_cons, List.take_zero, List.drop_succ_cons, List.drop_zero]
  refine wpStrong_run 3 rfl ?_
  simp only [List.take_succ_cons, List.take_zero, List.drop_succ_cons, List.drop_zero]
  repeat (go_big_quiet_step (fail))
  refine wpQuiet_nil ?_
  refine wpStrong_call rfl (fun X => by simp [go_sem]) (fun X hX => blockOf_any (a.add m) (16 + s) (cap - m) f X (by omega) (HLA.out X (Ext.trans (Ext.trans HE2.out ((Below.refl _ _).drew)) hX))) ?_
  simp only [zp0, zp1, zp2, zp3]
  refine wpStrong_call rfl (fun X => by simp [go_sem]) (fun X hX => hcall1.out X (Ext.trans (Ext.trans HE2.out ((Below.refl _ _).drew)) hX)) ?_
  simp only [zp0, zp1, zp2, zp3]
  refine wpStrong_nil ?_
  intro d X hd hX hR
  have hX' : Ext W2 X := Ext.trans ((Below.refl _ _).drew) hX
  have HZ3 := HZ2.out.carry hX'
  have HE3 : Ext w X := Ext.trans HE2.out hX'
  replace hR := hideit hR
  clear hne e0 e1 hX hX' HH2 HZ2 HE2 HLA hcall1
  refine wpList_store_mid rfl 35 (.tmp 13) (.tmp 29) rfl _ 0 (row 16 (yv L)).toArray rfl rfl (by rw [row_size]; exact hR.out.there) (by rw [row_size]; exact info32) (row_one fun _ _ => rfl) ?_
  have HBu : But d X (X.setCells d 0 (row 16 (yv L))) := But.sets _ 0 _ (But.refl _ _)
  have HZ4 := hideit (RowAt.but HZ3 HBu (by omega))
  have HE4 : Hid (Ext w (X.setCells d 0 (row 16 (yv L)))) := hideit (Ext.but HE3 HBu (by omega))
  have HL4 := hideit (hR.out.cells (g' := yv L))
  clear HZ3 HE3 hR HBu
  generalize X.setCells d 0 (row 16 (yv L)) = Y at *
  simp only [Act.put]
  obtain ⟨g, hg⟩ : ∃ g, g = Y.heap.size := ⟨_, rfl⟩
  have HEx : Ext Y (Y.alloc (.cells (row 16 (yv fun _ => 0#8)).toArray 35)) := (Below.refl _ _).alloc (Nat.le_refl _) _
  have HN5 : Hid (RowAt g 16 (yv fun _ => 0#8) (Y.alloc (.cells (row 16 (yv fun _ => 0#8)).toArray 35))) := hideit (by rw [hg]; exact RowAt.new Y 16 (yv fun _ => 0#8) 35)
  have hdg : d < g := by have := HL4.out.2.2; omega
  go_upto_region 7 with (first | (refine wpList_load_mid rfl 35 (.tmp 13) rfl _ 0 rfl (row 16 (yv L)) _ HL4.out.range Tryd.underlying35 rfl (by rw [row_length]; exact info32) ?_) | (rw [← hg]; refine wpList_store_mid rfl 35 (.tmp 14) (.tmp 30) rfl _ 0 (row 16 (yv L)).toArray rfl rfl (by rw [row_size]; exact HN5.out.there) (by rw [row_size]; exact info32) (row_one fun _ _ => rfl) ?_))
  clear hg
  have HBu : But g (Y.alloc (.cells (row 16 (yv fun _ => 0#8)).toArray 35)) ((Y.alloc (.cells (row 16 (yv fun _ => 0#8)).toArray 35)).setCells g 0 (row 16 (yv L))) := But.sets _ 0 _ (But.refl _ _)
  have HZ6 := hideit (RowAt.but (HZ4.out.carry HEx) HBu (by omega))
  have HL6 := hideit (RowAt.but (HL4.out.carry HEx) HBu (by omega))
  have HE6 : Hid (Ext w _) := hideit (Ext.but (Ext.trans HE4.out HEx) HBu (by omega))
  have HF6 := hideit (HN5.out.cells (g' := yv L))
  clear HN5 HBu HEx HZ4 HL4 HE4
  generalize (Y.alloc (.cells (row 16 (yv fun _ => 0#8)).toArray 35)).setCells g 0 (row 16 (yv L)) = Z at *
  simp only [Act.put]
  refine wp_region_lit ?_
  refine wpList_run rfl (.slice (some ⟨g, 0, none⟩) 16 16) (by simp [go_sem]) ?_
  simp only [zp0, zp1, zp2, zp3]
  refine wpList_run rfl (.slice (some sa) s (cap - m - 16)) (by simp [go_sem]) ?_
  simp only [zp0, zp1, zp2, zp3]
  refine wpList_copy_row rfl (.tmp 31) (.tmp 32) 22 22 rfl 5 Tryd.underlying22 info5A g 16 (yv L) HF6.out 0 16 16 sa s (cap - m - 16) rfl rfl s (yv fun i => D (m + 16 + i)) (Nat.min_eq_left (by omega)).symm (fun j hj => (HSA.out Z HE6.out).1 j hj) (by omega) (fun _ _ => rfl) ?_
  obtain ⟨P, hP⟩ : ∃ P, P = fillFA L D m s := ⟨_, rfl⟩
  have HF7 := hideit (RowAt.congr (HF6.out.part 0 s (yv fun i => D (m + 16 + i)) (by omega)) (g' := yv P) fun j hj => by
    rw [hP]
    simp only [yv, fillFA]
    by_cases h : j < s
    · rw [if_pos (by omega), if_pos h, Nat.sub_zero]
    · rw [if_neg (by omega), if_neg h])
  have HBu : But g Z (Z.setCells g 0 (row s (yv fun i => D (m + 16 + i)))) := But.sets _ 0 _ (But.refl _ _)
  have HZ7 := hideit (RowAt.but HZ6.out HBu (by omega))
  have HL7 := hideit (RowAt.but HL6.out HBu (by omega))
  have HE7 : Hid (Ext w _) := hideit (Ext.but HE6.out HBu (by omega))
  clear HF6 HZ6 HL6 HE6 HBu HSA
  generalize Z.setCells g 0 (row s (yv fun i => D (m + 16 + i))) = V at *
  simp only [zp0, zp1, zp2, zp3]
  obtain ⟨G, hG⟩ : ∃ G, G = ch t2 P := ⟨_, rfl⟩
  have hcall2 : Hid (Calls Tryd.prog 76 #[.agg #[.int .u64 ((lo t2).toNat : Int), .int .u64 ((hi t2).toNat : Int)], .agg (row 16 (yv P)).toArray, .pointer (some ⟨b, 0, none⟩)] V fun e w' => e = .returned (.agg (row 16 (yv G)).toArray) ∧ Below V.heap.size V w') := by rw [hG]; exact hch.out V HE7.out t2 P
  have hGG : Hid (G = ch t2 (fillFA (lendF ch t1 D m) D m s)) := by unfold Hid; rw [hG, hP, hLL.out]
  clear hG hP hch
  go_upto_region 8 with (fail)
  refine wp_region_lit ?_
  refine wpList_run rfl (.func (.func 76) #[] #[.pointer (some ⟨b, 0, none⟩)]) (by simp [go_sem]) ?_
  simp only [zp0, zp1, zp2, zp3]
  refine wpList_load_mid rfl 105 (.tmp 8) rfl _ 0 rfl (row 2 (hvA t2)) _ HZ7.out.range Tryd.underlying105 rfl (by rw [row_length]; exact info80) ?_
  simp only [zp0, zp1, zp2, zp3]
  refine wpList_load_mid rfl 35 (.tmp 14) rfl _ 0 rfl (row 16 (yv P)) _ HF7.out.range Tryd.underlying35 rfl (by rw [row_length]; exact info32) ?_
  simp only [zp0, zp1, zp2, zp3]
  refine wpList_call rfl (by simp [go_sem, hv_row]) (hcall2.out.mono ?_)
  rintro e w8 ⟨rfl, h8⟩
  refine ⟨_, rfl, ?_⟩
  simp only [zp0, zp1, zp2, zp3]
  have HF8 := hideit (HF7.out.carry h8)
  have HL8 := hideit (HL7.out.carry h8)
  have HE8 : Hid (Ext w w8) := hideit (Ext.trans HE7.out h8)
  clear HF7 HL7 HE7 HZ7 h8 hcall2
  refine wpList_store_mid rfl 35 (.tmp 14) (.tmp 37) rfl _ 0 (row 16 (yv G)).toArray rfl rfl (by rw [row_size]; exact HF8.out.there) (by rw [row_size]; exact info32) (row_one fun _ _ => rfl) ?_
  have HBu : But g w8 (w8.setCells g 0 (row 16 (yv G))) := But.sets _ 0 _ (But.refl _ _)
  have HL9 := hideit (RowAt.but HL8.out HBu (by omega))
  have HG9 := hideit (HF8.out.cells (g' := yv G))
  have HE9 : Hid (Ext w _) := hideit (Ext.but HE8.out HBu (by omega))
  clear HF8 HL8 HE8 HBu
  generalize w8.setCells g 0 (row 16 (yv G)) = U at *
  simp only [Act.put]
  have HO9 := hideit (hO.out.ext HE9.out)
  have hvb : Hid (∀ k, (Value.slice va m vc).ownBlock = some k → base ≤ k ∧ k < w.heap.size) := hO.out.lt
  clear hO
  generalize hvv : Value.slice va m vc = v at *
  clear hvv
  go_upto_region 9 with (fail)
  refine wp_region_lit ?_
  refine wpList_run rfl v (by simp [go_sem]) ?_
  simp only [zp0, zp1, zp2, zp3]
  refine wpList_run rfl (.slice (some ⟨g, 0, none⟩) 16 16) (by simp [go_sem]) ?_
  simp only [zp0, zp1, zp2, zp3]
  refine wpList_grow elem22A rfl (.tmp 38) (.tmp 39) rfl rfl HO9.out ⟨g, 0, none⟩ 16 16 (yv G) (yv fun j => if j < m then F j else G (j - m)) rfl (lie_of_row HG9.out) (fun _ _ => rfl) (fun j hj => by simp only [yv]; rw [if_pos hj]) (fun j hj => by simp only [yv]; rw [if_neg (by omega), Nat.add_sub_cancel_left]) (by omega) (by have := Below.size HE9.out; omega) ?_
  intro v2 w2 ho2 hg2
  have hb2 : Below base w w2 := Below.trans (Below.mono HE9.out hbase) (below_grown (by have := Below.size HE9.out; omega) hg2 (fun k h => (hvb.out k h).1))
  have HL2 := hideit (RowAt.grown HL9.out hg2 (fun h => by have := (hvb.out d h.symm).2; omega))
  replace ho2 := hideit ho2
  replace hb2 := hideit hb2
  have hsz2 : base ≤ w2.heap.size := by have := Below.size HE9.out; have := hg2.size; omega
  clear hg2 HL9 HG9 HE9 HO9 hvb
  simp only [zp0, zp1, zp2, zp3]
  go_upto_region 10 with (fail)
  have i10 : (s : Int) ≤ 16 := by omega
  have i11 : (0 : Int) ≤ (s : Int) := by omega
  refine wp_region_lit ?_
  refine wpList_run rfl v2 (by simp [go_sem]) ?_
  simp only [zp0, zp1, zp2, zp3]
  refine wpList_run rfl (.slice (some sa) s (cap - m - 16)) (by simp [go_sem]) ?_
  simp only [zp0, zp1, zp2, zp3]
  refine wpList_run rfl (.int .i64 (s : Int)) (by simp [go_sem]) ?_
  simp only [zp0, zp1, zp2, zp3]
  refine wpList_run rfl (.slice (some ⟨d, 0, none⟩) s 16) (cutS _ d s hs1) ?_
  simp only [zp0, zp1, zp2, zp3]
  refine wpList_grow elem22A rfl (.tmp 41) (.tmp 44) rfl rfl ho2.out ⟨d, 0, none⟩ s 16 (yv L) (yv (stealF ch t1 t2 F D m s)) rfl ⟨fun j hj => (lie_of_row HL2.out).1 j (by omega), HL2.out.2.2⟩ (fun _ _ => rfl) (fun j hj => by
    simp only [yv, stealF]
    by_cases h : j < m
    · rw [if_pos h, if_pos h]
    · rw [if_neg h, if_neg h, if_pos (by omega), hGG.out]) (fun j hj => by simp only [yv, stealF]; rw [if_neg (by omega), if_neg (by omega), Nat.add_sub_cancel_left, hLL.out]) (by omega) hsz2 ?_
  intro v3 w3 ho3 hg3
  have hb3 : Below base w w3 := Below.trans hb2.out (below_grown hsz2 hg3 (fun k h => (ho2.out.lt k h).1))
  replace ho3 := hideit ho3
  replace hb3 := hideit hb3
  clear hg3 ho2 hb2 HL2
  simp only [zp0, zp1, zp2, zp3]
  go_wp2
  go_ret
  exact ⟨v3, rfl, ho3.out, hb3.out⟩
end Go.Proofs.YtgjabfjkokpkiaaDoor
namespace Go.Proofs.YtgjabfjkokpkiaaDoor
set_option maxRecDepth 20000
open Go.RowKit Go.BigFrame
def xencF (ch : BitVec 128 → (Nat → BitVec 8) → Nat → BitVec 8) (t : BitVec 128) (D : Nat → BitVec 8) (nb l : Nat) : Nat → BitVec 8 :=
  if l % 16 = 0 then fronts ch t D else stealF ch (dK 135#128 nb t) (dX 135#128 (dK 135#128 nb t)) (fronts ch t D) D (16 * nb) (l % 16)
def xdecF (ch : BitVec 128 → (Nat → BitVec 8) → Nat → BitVec 8) (t : BitVec 128) (D : Nat → BitVec 8) (nb l : Nat) : Nat → BitVec 8 :=
  if l % 16 = 0 then fronts ch t D else stealF ch (dX 135#128 (dK 135#128 nb t)) (dK 135#128 nb t) (fronts ch t D) D (16 * nb) (l % 16)
set_option maxRecDepth 20000 in
set_option maxHeartbeats 4000000 in
theorem xenc_any (q c1 c2 r l cap nb : Nat) (S1 S2 : Nat → BitVec 8) (hr : 1 ≤ r) (hr2 : r ≤ 14) (u : BitVec 64) (a : Addr) (D : Nat → BitVec 8) (w : World) (hP : PairAt q c1 c2 r S1 S2 w) (hl1 : 16 ≤ l) (hl2 : l ≤ 65536) (hcap : l ≤ cap) (hD : LieAt a l (yv D) w)
    (hnb : (l % 16 = 0 ∧ l = 16 * nb) ∨ (l % 16 ≠ 0 ∧ l = 16 * nb + 16 + l % 16)) :
    Calls Tryd.prog 38 #[.pointer (some ⟨q, 0, none⟩), .int .u64 (u.toNat : Int), .slice (some a) l cap] w fun e w' => ∃ v, e = .returned (.tuple #[v, .int .i64 0]) ∧ OwnB w.heap.size 5 v l (yv (xencF (chF (encF S1 bxT twT r)) (tw0 S2 r u) D nb l)) w' ∧ Below w.heap.size w w' := by
  replace hD := hideit hD
  obtain ⟨t0, ht0⟩ : ∃ t0, t0 = tw0 S2 r u := ⟨_, rfl⟩
  have hfirst : Hid (∀ X, Ext w X → Calls Tryd.prog 61 #[.pointer (some ⟨q, 0, none⟩), .int .u64 (u.toNat : Int)] X fun e w' => e = .returned (.agg #[.int .u64 ((lo t0).toNat : Int), .int .u64 ((hi t0).toNat : Int)]) ∧ Below X.heap.size X w') := fun X hX => by rw [ht0]; exact first_anyA q c1 c2 r S1 S2 hr hr2 u X (hP.ext hX)
  obtain ⟨cF, hcF⟩ : ∃ cF, cF = (encF S1 bxT twT r) := ⟨_, rfl⟩
  have hci : Hid (∀ X, Ext w X → ∀ f, Calls Tryd.prog 59 #[.pointer (some ⟨c1, 0, none⟩), .agg (row 16 (yv f)).toArray] X fun e w' => e = .returned (.agg (row 16 (yv (cF f))).toArray) ∧ Below X.heap.size X w') := fun X hX f => by rw [hcF]; exact enc_any c1 r S1 bxT ubT twT f hr hr2 X (hP.ext hX).blocks
  rw [← hcF, ← ht0]
  have eq0 := hP.one
  replace ht0 := hideit ht0
  replace hcF := hideit hcF
  clear hP
  have i0 : ¬ (l : Int) < 16 := by omega
  replace hnb := hideit hnb
  have hmf : ∀ (fn : Fn) (first cap : Array Value) (w : World), (Instr.makeFunc fn first cap).run Tryd.prog w = .ok (.func fn first cap) w := fun _ _ _ _ => rfl
  obtain ⟨ch, hch⟩ : ∃ ch, ch = chF cF := ⟨_, rfl⟩
  go_enter Tryd.func38, Tryd.ntmps38
  go_upto_region 5 with (first | (go_at_call 57; refine (refusal_ok _ _ l cap hl1 hl2 _).mono ?_; rintro e w0 ⟨rfl, rfl⟩) | (go_at_call 58; refine (between_any 59 (.pointer (some ⟨c1, 0, none⟩)) _).mono ?_; rintro e w1 ⟨rfl, h1, h2⟩; have HC1 := hideit h1; have HX1 : Hid (Ext _ w1) := hideit h2; clear h1 h2))
  obtain ⟨b, hb⟩ : ∃ b, b = w0.heap.size := ⟨_, rfl⟩
  rw [← hb]
  rw [← hb] at HC1
  clear eq0 hmf
  have hbw : Hid (∀ X, Ext w1 X → ∀ t f, Calls Tryd.prog 76 #[.agg #[.int .u64 ((lo t).toNat : Int), .int .u64 ((hi t).toNat : Int)], .agg (row 16 (yv f)).toArray, .pointer (some ⟨b, 0, none⟩)] X fun e w' => e = .returned (.agg (row 16 (yv (ch t f))).toArray) ∧ Below X.heap.size X w') := fun X hX t f => by
    rw [hch]
    exact betw_any 59 enters12 (.pointer (some ⟨c1, 0, none⟩)) cF t f b X ((Below.cell hX (p := ⟨b, 0, none⟩) (World.block_lt_of_cell? w1 _ HC1.out)).trans HC1.out) (fun Y hY f => hci.out Y (Ext.trans (Ext.trans HX1.out hX) hY) f)
  have hw0b : w0.heap.size ≤ b := by omega
  have hsz1 : b < w1.heap.size := World.block_lt_of_cell? w1 _ HC1.out
  clear hci HC1 hb
  obtain ⟨Tn, hTn⟩ : ∃ Tn, Tn = dK 135#128 nb t0 := ⟨_, rfl⟩
  have heach : Hid (∀ X, Ext w1 X → Calls Tryd.prog 60 #[.slice (some a) l cap, .agg #[.int .u64 ((lo t0).toNat : Int), .int .u64 ((hi t0).toNat : Int)], betwV b] X fun e w' => ∃ v, e = .returned (.tuple #[v, .agg #[.int .u64 ((lo Tn).toNat : Int), .int .u64 ((hi Tn).toNat : Int)]]) ∧ OwnB X.heap.size 5 v (16 * nb) (yv (fronts ch t0 D)) w' ∧ Below X.heap.size X w') := fun X hX => by
    rw [hTn]
    exact each_any l cap nb a D t0 b ch X hl1 hl2 hcap (hD.out.carry (Ext.trans HX1.out hX)) hnb.out (fun Y hY => hbw.out Y (Ext.trans hX hY))
  replace hTn := hideit hTn
  replace hch := hideit hch
  go_upto_region 6 with (first | (go_at_call 61; refine (hfirst.out _ HX1.out).mono ?_; rintro e w2 ⟨rfl, h2⟩; have HX2 : Hid (Ext w1 w2) := hideit h2; clear h2) | (go_at_call 60; refine (heach.out _ HX2.out).mono ?_; rintro e w3 ⟨v, rfl, hO, h3⟩; have HO3 := hideit hO; have HX3 : Hid (Ext w2 w3) := hideit h3; clear h3 hO; obtain ⟨d, hd⟩ : ∃ d, d = w3.heap.size := ⟨_, rfl⟩; have HN4 : Hid (RowAt d 2 (hvA 0#128) (w3.alloc (.cells #[.int .u64 0, .int .u64 0] 105))) := hideit (by rw [hd]; exact RowAt.new w3 2 (hvA 0#128) 105)) | (rw [← hd]; refine wpList_store_mid rfl 105 (.tmp 11) (.tmp 32) rfl _ 0 (row 2 (hvA Tn)).toArray rfl rfl (by rw [row_size]; exact HN4.out.there) (by rw [row_size]; exact info80) (hv_one _) ?_))
  have HEx : Ext w3 (w3.alloc (.cells #[.int .u64 0, .int .u64 0] 105)) := (Below.refl _ _).alloc (Nat.le_refl _) _
  have HBu : But d (w3.alloc (.cells #[.int .u64 0, .int .u64 0] 105)) ((w3.alloc (.cells #[.int .u64 0, .int .u64 0] 105)).setCells d 0 (row 2 (hvA Tn))) := But.sets _ 0 _ (But.refl _ _)
  have hsz2 : w1.heap.size ≤ w2.heap.size := Below.size HX2.out
  have hsz3 : w2.heap.size ≤ w3.heap.size := Below.size HX3.out
  have hvd : v.ownBlock ≠ some d := fun h => by have := (HO3.out.lt d h).2; omega
  have HT5 := hideit (HN4.out.cells (g' := hvA Tn))
  have HO5 := hideit ((HO3.out.ext HEx).but HBu hvd)
  have HX5 : Hid (Ext w1 ((w3.alloc (.cells #[.int .u64 0, .int .u64 0] 105)).setCells d 0 (row 2 (hvA Tn)))) := hideit (Ext.but (Ext.trans (Ext.trans HX2.out HX3.out) HEx) HBu (by omega))
  have hdd : w3.heap.size ≤ d := by omega
  clear HN4 HEx HBu hd HO3 HX3 HX2 heach hfirst hvd
  generalize (w3.alloc (.cells #[.int .u64 0, .int .u64 0] 105)).setCells d 0 (row 2 (hvA Tn)) = Y at *
  simp only [Act.put]
  have e0 : ∀ k : Kept (Ext Y.drew), k.w.cell? ⟨d, 0, none⟩ = some (.int .u64 ((lo Tn).toNat : Int)) := fun k => (HT5.out.drew.carry k.ok).1 0 (by omega)
  have e1 : ∀ k : Kept (Ext Y.drew), k.w.cell? ⟨d, 1, none⟩ = some (.int .u64 ((hi Tn).toNat : Int)) := fun k => (HT5.out.drew.carry k.ok).1 1 (by omega)
  have hne := kept_ne Y.drew
  refine wp_region_late 6 (by kernel_rfl) (by kernel_rfl) (by decide) ?_
  simp only [List.take_succ_cons, List.take_zero, List.drop_succ_cons, List.drop_zero]
  refine wpStrong_run 4 rfl ?_
  simp only [List.take_succ_cons, List.take_zero, List.drop_succ_cons, List.drop_zero]
  repeat (go_big_quiet_step (fail))
  refine wpQuiet_nil ?_
  refine wpStrong_call rfl (fun X => by simp [go_sem]) (fun X _ => double_any Tn X) ?_
  simp only [zp0, zp1, zp2, zp3]
  refine wpStrong_run 1 rfl ?_
  simp only [List.take_succ_cons, List.take_zero, List.drop_succ_cons, List.drop_zero]
  repeat (go_big_quiet_step (fail))
  refine wpQuiet_nil ?_
  refine wpStrong_nil ?_
  intro X hX
  have hX' : Ext Y X := Ext.trans ((Below.refl _ _).drew) hX
  have HO := hideit (HO5.out.ext hX')
  have HX : Hid (Ext w1 X) := hideit (Ext.trans HX5.out hX')
  have hszY : w2.heap.size ≤ X.heap.size := by
    have h1 := (HO.out.2)
    have h2 := Below.size HX.out
    have h3 := Below.size HX5.out
    have h4 := Below.size hX'
    have h5 : d < Y.heap.size := HT5.out.2.2
    omega
  clear hne e0 e1 hX hX' HT5 HO5 HX5
  rcases hnb.out with ⟨hm0, hlm⟩ | ⟨hm0, hlm⟩
  · obtain ⟨va, vc, hvA⟩ : ∃ va vc, v = .slice va l vc := by
      rcases HO.out.2 with ⟨h, h0⟩ | ⟨g, cap, cur, h, _⟩
      · omega
      · rw [← hlm] at h; exact ⟨_, cap, h⟩
    have hst := hideit (steal_none l cap a Tn (dX 135#128 Tn) v vc va hvA hcap hl2 (betwV b) X)
    refine wpList_call rfl (by simp [go_sem]) (hst.out.mono ?_)
    rintro e w6 ⟨rfl, h6⟩
    refine ⟨_, rfl, ?_⟩
    simp only [zp0, zp1, zp2, zp3]
    have HOF : OwnB w0.heap.size 5 v l (yv (xencF ch t0 D nb l)) w6 := by
      have h7 := HO.out.ext h6
      rw [← hlm] at h7
      have h8 : xencF ch t0 D nb l = fronts ch t0 D := by unfold xencF; rw [if_pos hm0]
      rw [h8]
      exact ⟨h7.1, h7.2.imp id fun ⟨g, cp, cur, k1, k2, k3⟩ => ⟨g, cp, cur, k1, by have := Below.size HX1.out; omega, k3⟩⟩
    have HBF : Ext w0 w6 := Ext.trans (Ext.trans HX1.out HX.out) h6
    rw [hch.out] at HOF
    replace HOF := hideit HOF
    replace HBF := hideit HBF
    clear h6 HO HX hst hvA
    go_wp2
    refine bodyPost_ret (results_tmp2 Tryd.results38 _ _ _) rfl ?_
    exact ⟨v, rfl, HOF.out, HBF.out⟩
  · obtain ⟨sh, hsh⟩ : ∃ sh, sh = l % 16 := ⟨_, rfl⟩
    have hst := steal_any w2.heap.size (16 * nb) sh cap a D (fronts ch t0 D) Tn (dX 135#128 Tn) b ch v X (by omega) (by omega) (by omega) (by omega) (by have := hD.out.carry (Ext.trans HX1.out HX.out); rwa [show 16 * nb + 16 + sh = l by omega]) HO.out hszY (fun Y hY => hbw.out Y (Ext.trans HX.out hY))
    rw [show 16 * nb + 16 + sh = l by omega] at hst
    replace hst := hideit hst
    refine wpList_call rfl (by simp [go_sem]) (hst.out.mono ?_)
    rintro e w6 ⟨v6, rfl, ho6, h6⟩
    refine ⟨_, rfl, ?_⟩
    simp only [zp0, zp1, zp2, zp3]
    have HOF : OwnB w0.heap.size 5 v6 l (yv (xencF ch t0 D nb l)) w6 := by
      have h8 : xencF ch t0 D nb l = stealF ch Tn (dX 135#128 Tn) (fronts ch t0 D) D (16 * nb) sh := by unfold xencF; rw [if_neg hm0, ← hTn.out, ← hsh]
      rw [h8]
      exact ⟨ho6.1, ho6.2.imp id fun ⟨g, cp, cur, k1, k2, k3⟩ => ⟨g, cp, cur, k1, by have := Below.size HX1.out; omega, k3⟩⟩
    have HBF : Ext w0 w6 := Below.trans (Ext.trans HX1.out HX.out) (Below.mono h6 (by have := Below.size HX1.out; omega))
    rw [hch.out] at HOF
    replace HOF := hideit HOF
    replace HBF := hideit HBF
    clear h6 ho6 HO HX hst hsh
    go_wp2
    refine bodyPost_ret (results_tmp2 Tryd.results38 _ _ _) rfl ?_
    exact ⟨v6, rfl, HOF.out, HBF.out⟩
set_option maxRecDepth 20000 in
set_option maxHeartbeats 4000000 in
theorem xdec_any (q c1 c2 r l cap nb : Nat) (S1 S2 : Nat → BitVec 8) (hr : 1 ≤ r) (hr2 : r ≤ 14) (u : BitVec 64) (a : Addr) (D : Nat → BitVec 8) (w : World) (hP : PairAt q c1 c2 r S1 S2 w) (hl1 : 16 ≤ l) (hl2 : l ≤ 65536) (hcap : l ≤ cap) (hD : LieAt a l (yv D) w)
    (hnb : (l % 16 = 0 ∧ l = 16 * nb) ∨ (l % 16 ≠ 0 ∧ l = 16 * nb + 16 + l % 16)) :
    Calls Tryd.prog 40 #[.pointer (some ⟨q, 0, none⟩), .int .u64 (u.toNat : Int), .slice (some a) l cap] w fun e w' => ∃ v, e = .returned (.tuple #[v, .int .i64 0]) ∧ OwnB w.heap.size 5 v l (yv (xdecF (chF (decF S1 ubT twT r)) (tw0 S2 r u) D nb l)) w' ∧ Below w.heap.size w w' := by
  replace hD := hideit hD
  obtain ⟨t0, ht0⟩ : ∃ t0, t0 = tw0 S2 r u := ⟨_, rfl⟩
  have hfirst : Hid (∀ X, Ext w X → Calls Tryd.prog 61 #[.pointer (some ⟨q, 0, none⟩), .int .u64 (u.toNat : Int)] X fun e w' => e = .returned (.agg #[.int .u64 ((lo t0).toNat : Int), .int .u64 ((hi t0).toNat : Int)]) ∧ Below X.heap.size X w') := fun X hX => by rw [ht0]; exact first_anyA q c1 c2 r S1 S2 hr hr2 u X (hP.ext hX)
  obtain ⟨cF, hcF⟩ : ∃ cF, cF = (decF S1 ubT twT r) := ⟨_, rfl⟩
  have hci : Hid (∀ X, Ext w X → ∀ f, Calls Tryd.prog 64 #[.pointer (some ⟨c1, 0, none⟩), .agg (row 16 (yv f)).toArray] X fun e w' => e = .returned (.agg (row 16 (yv (cF f))).toArray) ∧ Below X.heap.size X w') := fun X hX f => by rw [hcF]; exact dec_any c1 r S1 bxT ubT twT f hr hr2 X (hP.ext hX).blocks
  rw [← hcF, ← ht0]
  have eq0 := hP.one
  replace ht0 := hideit ht0
  replace hcF := hideit hcF
  clear hP
  have i0 : ¬ (l : Int) < 16 := by omega
  replace hnb := hideit hnb
  have hmf : ∀ (fn : Fn) (first cap : Array Value) (w : World), (Instr.makeFunc fn first cap).run Tryd.prog w = .ok (.func fn first cap) w := fun _ _ _ _ => rfl
  obtain ⟨ch, hch⟩ : ∃ ch, ch = chF cF := ⟨_, rfl⟩
  go_enter Tryd.func40, Tryd.ntmps40
  go_upto_region 5 with (first | (go_at_call 57; refine (refusal_ok _ _ l cap hl1 hl2 _).mono ?_; rintro e w0 ⟨rfl, rfl⟩) | (go_at_call 58; refine (between_any 64 (.pointer (some ⟨c1, 0, none⟩)) _).mono ?_; rintro e w1 ⟨rfl, h1, h2⟩; have HC1 := hideit h1; have HX1 : Hid (Ext _ w1) := hideit h2; clear h1 h2))
  obtain ⟨b, hb⟩ : ∃ b, b = w0.heap.size := ⟨_, rfl⟩
  rw [← hb]
  rw [← hb] at HC1
  clear eq0 hmf
  have hbw : Hid (∀ X, Ext w1 X → ∀ t f, Calls Tryd.prog 76 #[.agg #[.int .u64 ((lo t).toNat : Int), .int .u64 ((hi t).toNat : Int)], .agg (row 16 (yv f)).toArray, .pointer (some ⟨b, 0, none⟩)] X fun e w' => e = .returned (.agg (row 16 (yv (ch t f))).toArray) ∧ Below X.heap.size X w') := fun X hX t f => by
    rw [hch]
    exact betw_any 64 enters14 (.pointer (some ⟨c1, 0, none⟩)) cF t f b X ((Below.cell hX (p := ⟨b, 0, none⟩) (World.block_lt_of_cell? w1 _ HC1.out)).trans HC1.out) (fun Y hY f => hci.out Y (Ext.trans (Ext.trans HX1.out hX) hY) f)
  have hw0b : w0.heap.size ≤ b := by omega
  have hsz1 : b < w1.heap.size := World.block_lt_of_cell? w1 _ HC1.out
  clear hci HC1 hb
  obtain ⟨Tn, hTn⟩ : ∃ Tn, Tn = dK 135#128 nb t0 := ⟨_, rfl⟩
  have heach : Hid (∀ X, Ext w1 X → Calls Tryd.prog 60 #[.slice (some a) l cap, .agg #[.int .u64 ((lo t0).toNat : Int), .int .u64 ((hi t0).toNat : Int)], betwV b] X fun e w' => ∃ v, e = .returned (.tuple #[v, .agg #[.int .u64 ((lo Tn).toNat : Int), .int .u64 ((hi Tn).toNat : Int)]]) ∧ OwnB X.heap.size 5 v (16 * nb) (yv (fronts ch t0 D)) w' ∧ Below X.heap.size X w') := fun X hX => by
    rw [hTn]
    exact each_any l cap nb a D t0 b ch X hl1 hl2 hcap (hD.out.carry (Ext.trans HX1.out hX)) hnb.out (fun Y hY => hbw.out Y (Ext.trans hX hY))
  replace hTn := hideit hTn
  replace hch := hideit hch
  go_upto_region 6 with (first | (go_at_call 61; refine (hfirst.out _ HX1.out).mono ?_; rintro e w2 ⟨rfl, h2⟩; have HX2 : Hid (Ext w1 w2) := hideit h2; clear h2) | (go_at_call 60; refine (heach.out _ HX2.out).mono ?_; rintro e w3 ⟨v, rfl, hO, h3⟩; have HO3 := hideit hO; have HX3 : Hid (Ext w2 w3) := hideit h3; clear h3 hO; obtain ⟨d, hd⟩ : ∃ d, d = w3.heap.size := ⟨_, rfl⟩; have HN4 : Hid (RowAt d 2 (hvA 0#128) (w3.alloc (.cells #[.int .u64 0, .int .u64 0] 105))) := hideit (by rw [hd]; exact RowAt.new w3 2 (hvA 0#128) 105)) | (rw [← hd]; refine wpList_store_mid rfl 105 (.tmp 11) (.tmp 32) rfl _ 0 (row 2 (hvA Tn)).toArray rfl rfl (by rw [row_size]; exact HN4.out.there) (by rw [row_size]; exact info80) (hv_one _) ?_))
  have HEx : Ext w3 (w3.alloc (.cells #[.int .u64 0, .int .u64 0] 105)) := (Below.refl _ _).alloc (Nat.le_refl _) _
  have HBu : But d (w3.alloc (.cells #[.int .u64 0, .int .u64 0] 105)) ((w3.alloc (.cells #[.int .u64 0, .int .u64 0] 105)).setCells d 0 (row 2 (hvA Tn))) := But.sets _ 0 _ (But.refl _ _)
  have hsz2 : w1.heap.size ≤ w2.heap.size := Below.size HX2.out
  have hsz3 : w2.heap.size ≤ w3.heap.size := Below.size HX3.out
  have hvd : v.ownBlock ≠ some d := fun h => by have := (HO3.out.lt d h).2; omega
  have HT5 := hideit (HN4.out.cells (g' := hvA Tn))
  have HO5 := hideit ((HO3.out.ext HEx).but HBu hvd)
  have HX5 : Hid (Ext w1 ((w3.alloc (.cells #[.int .u64 0, .int .u64 0] 105)).setCells d 0 (row 2 (hvA Tn)))) := hideit (Ext.but (Ext.trans (Ext.trans HX2.out HX3.out) HEx) HBu (by omega))
  have hdd : w3.heap.size ≤ d := by omega
  clear HN4 HEx HBu hd HO3 HX3 HX2 heach hfirst hvd
  generalize (w3.alloc (.cells #[.int .u64 0, .int .u64 0] 105)).setCells d 0 (row 2 (hvA Tn)) = Y at *
  simp only [Act.put]
  have e0 : ∀ k : Kept (Ext Y.drew), k.w.cell? ⟨d, 0, none⟩ = some (.int .u64 ((lo Tn).toNat : Int)) := fun k => (HT5.out.drew.carry k.ok).1 0 (by omega)
  have e1 : ∀ k : Kept (Ext Y.drew), k.w.cell? ⟨d, 1, none⟩ = some (.int .u64 ((hi Tn).toNat : Int)) := fun k => (HT5.out.drew.carry k.ok).1 1 (by omega)
  have hne := kept_ne Y.drew
  refine wp_region_late 6 (by kernel_rfl) (by kernel_rfl) (by decide) ?_
  simp only [List.take_succ_cons, List.take_zero, List.drop_succ_cons, List.drop_zero]
  refine wpStrong_run 3 rfl ?_
  simp only [List.take_succ_cons, List.take_zero, List.drop_succ_cons, List.drop_zero]
  repeat (go_big_quiet_step (fail))
  refine wpQuiet_nil ?_
  refine wpStrong_call rfl (fun X => by simp [go_sem]) (fun X _ => double_any Tn X) ?_
  simp only [zp0, zp1, zp2, zp3]
  refine wpStrong_run 2 rfl ?_
  simp only [List.take_succ_cons, List.take_zero, List.drop_succ_cons, List.drop_zero]
  repeat (go_big_quiet_step (fail))
  refine wpQuiet_nil ?_
  refine wpStrong_nil ?_
  intro X hX
  have hX' : Ext Y X := Ext.trans ((Below.refl _ _).drew) hX
  have HO := hideit (HO5.out.ext hX')
  have HX : Hid (Ext w1 X) := hideit (Ext.trans HX5.out hX')
  have hszY : w2.heap.size ≤ X.heap.size := by
    have h1 := (HO.out.2)
    have h2 := Below.size HX.out
    have h3 := Below.size HX5.out
    have h4 := Below.size hX'
    have h5 : d < Y.heap.size := HT5.out.2.2
    omega
  clear hne e0 e1 hX hX' HT5 HO5 HX5
  rcases hnb.out with ⟨hm0, hlm⟩ | ⟨hm0, hlm⟩
  · obtain ⟨va, vc, hvA⟩ : ∃ va vc, v = .slice va l vc := by
      rcases HO.out.2 with ⟨h, h0⟩ | ⟨g, cap, cur, h, _⟩
      · omega
      · rw [← hlm] at h; exact ⟨_, cap, h⟩
    have hst := hideit (steal_none l cap a (dX 135#128 Tn) Tn v vc va hvA hcap hl2 (betwV b) X)
    refine wpList_call rfl (by simp [go_sem]) (hst.out.mono ?_)
    rintro e w6 ⟨rfl, h6⟩
    refine ⟨_, rfl, ?_⟩
    simp only [zp0, zp1, zp2, zp3]
    have HOF : OwnB w0.heap.size 5 v l (yv (xdecF ch t0 D nb l)) w6 := by
      have h7 := HO.out.ext h6
      rw [← hlm] at h7
      have h8 : xdecF ch t0 D nb l = fronts ch t0 D := by unfold xdecF; rw [if_pos hm0]
      rw [h8]
      exact ⟨h7.1, h7.2.imp id fun ⟨g, cp, cur, k1, k2, k3⟩ => ⟨g, cp, cur, k1, by have := Below.size HX1.out; omega, k3⟩⟩
    have HBF : Ext w0 w6 := Ext.trans (Ext.trans HX1.out HX.out) h6
    rw [hch.out] at HOF
    replace HOF := hideit HOF
    replace HBF := hideit HBF
    clear h6 HO HX hst hvA
    go_wp2
    refine bodyPost_ret (results_tmp2 Tryd.results40 _ _ _) rfl ?_
    exact ⟨v, rfl, HOF.out, HBF.out⟩
  · obtain ⟨sh, hsh⟩ : ∃ sh, sh = l % 16 := ⟨_, rfl⟩
    have hst := steal_any w2.heap.size (16 * nb) sh cap a D (fronts ch t0 D) (dX 135#128 Tn) Tn b ch v X (by omega) (by omega) (by omega) (by omega) (by have := hD.out.carry (Ext.trans HX1.out HX.out); rwa [show 16 * nb + 16 + sh = l by omega]) HO.out hszY (fun Y hY => hbw.out Y (Ext.trans HX.out hY))
    rw [show 16 * nb + 16 + sh = l by omega] at hst
    replace hst := hideit hst
    refine wpList_call rfl (by simp [go_sem]) (hst.out.mono ?_)
    rintro e w6 ⟨v6, rfl, ho6, h6⟩
    refine ⟨_, rfl, ?_⟩
    simp only [zp0, zp1, zp2, zp3]
    have HOF : OwnB w0.heap.size 5 v6 l (yv (xdecF ch t0 D nb l)) w6 := by
      have h8 : xdecF ch t0 D nb l = stealF ch (dX 135#128 Tn) Tn (fronts ch t0 D) D (16 * nb) sh := by unfold xdecF; rw [if_neg hm0, ← hTn.out, ← hsh]
      rw [h8]
      exact ⟨ho6.1, ho6.2.imp id fun ⟨g, cp, cur, k1, k2, k3⟩ => ⟨g, cp, cur, k1, by have := Below.size HX1.out; omega, k3⟩⟩
    have HBF : Ext w0 w6 := Below.trans (Ext.trans HX1.out HX.out) (Below.mono h6 (by have := Below.size HX1.out; omega))
    rw [hch.out] at HOF
    replace HOF := hideit HOF
    replace HBF := hideit HBF
    clear h6 ho6 HO HX hst hsh
    go_wp2
    refine bodyPost_ret (results_tmp2 Tryd.results40 _ _ _) rfl ?_
    exact ⟨v6, rfl, HOF.out, HBF.out⟩
end Go.Proofs.YtgjabfjkokpkiaaDoor
