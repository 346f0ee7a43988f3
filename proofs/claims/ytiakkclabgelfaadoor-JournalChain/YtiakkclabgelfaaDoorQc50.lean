/-
  Lists that are the same. What Append does, and where a law of journals is.
-/
import Derived.Test.YtiakkclabgelfaaDoorQc1
import Derived.Test.YtiakkclabgelfaaDoorQc47
import Derived.Test.YtiakkclabgelfaaDoorQc49
namespace Go.Proofs.YtiakkclabgelfaaDoor
set_option maxRecDepth 20000
open Go.RowKit Go.BigFrame
set_option linter.unusedVariables false
def bS (l : Nat) (b : Nat → BitVec 8) : ByteArray := bstr l fun j => ((b j).toNat : Int)
theorem convQ (v : Value) (l : Nat) (b : Nat → BitVec 8) (w : World) (h : PV v l b w) : (convert 39 9 v).run Tryd.prog w = .ok (.string (bS l b)) w := convP v l b w h
theorem add_one' (a : Addr) : a.add 1 = ⟨a.block, a.off + 1, none⟩ := by unfold Addr.add; simp
theorem add_zero' (a : Addr) : a.add 0 = a := by unfold Addr.add; simp
set_option maxRecDepth 20000 in
set_option maxHeartbeats 4000000 in
theorem samer_any (v0 v1 : Value) (n : Nat) (bs : Nat → Int) (us us' : Nat → Value) (ls : Nat → Nat) (fs : Nat → Nat → BitVec 8) (w : World) (hA : RLs v0 n bs us ls fs w) (hB : RLs v1 n bs us' ls fs w) (hn : n ≤ 5900000000000) : Calls Tryd.prog 17 #[v0, v1] w fun e w' => e = .returned (.bool true) ∧ Ext w w' := by
  obtain ⟨ao, ac, rfl⟩ := hA.form
  obtain ⟨bo, bc, rfl⟩ := hB.form
  replace hA := hideit hA
  replace hB := hideit hB
  replace hn := hideit hn
  have hE := hideit (Ext.refl w)
  go_enter Tryd.func17, Tryd.ntmps17
  go_upto_region 1 with (fail)
  refine wp_region_lit ?_
  refine wpList_run rfl (.slice ao n ac) (by simp [go_sem]) ?_
  simp only [zp0, zp1, zp2, zp3]
  refine wpList_run rfl (.int .i64 (n : Int)) (by simp [go_sem]) ?_
  simp only [zp0, zp1, zp2, zp3]
  refine wpList_run rfl (.slice bo n bc) (by simp [go_sem]) ?_
  simp only [zp0, zp1, zp2, zp3]
  refine wpList_run rfl (.int .i64 (n : Int)) (by simp [go_sem]) ?_
  simp only [zp0, zp1, zp2, zp3]
  refine wpList_run rfl (.bool false) (by simp [go_sem]) ?_
  simp only [zp0, zp1, zp2, zp3]
  go_upto_region 3 with (fail)
  refine wp_region_lit ?_
  refine wpList_run rfl (.int .i64 0) (by simp [go_sem]) ?_
  simp only [zp0, zp1, zp2, zp3]
  go_wp2
  go_loopw [5] (fun i X => ∃ k : Nat, k ≤ n ∧ i = .int .i64 (k : Int) ∧ Ext w X) (fun i _ => 6000000000000 - (intOf i).toNat)
  case atStart => exact ⟨0, Nat.zero_le _, rfl, Ext.refl _⟩
  case round =>
    obtain ⟨k, hk, rfl, hX⟩ := hrel
    clear hE
    by_cases hlt : k < n
    · have k1 : (k : Int) < (n : Int) := by omega
      have ek : IntKind.i64.wrap ((k : Int) + 1) = ((k + 1 : Nat) : Int) := by have := hn.out; rw [IntKind.wrap_i64]; omega
      obtain ⟨a, ha, _⟩ := hA.out.at k hlt
      obtain ⟨b, hb, _⟩ := hB.out.at k hlt
      have hL : Hid (∀ X, Ext wr.drew X → (X.cell? (a.add (k * 2)) = some (.int .i64 (bs k)) ∧ X.cell? ⟨(a.add (k * 2)).block, (a.add (k * 2)).off + 1, none⟩ = some (us k) ∧ PV (us k) (ls k) (fs k) X) ∧ (X.cell? (b.add (k * 2)) = some (.int .i64 (bs k)) ∧ X.cell? ⟨(b.add (k * 2)).block, (b.add (k * 2)).off + 1, none⟩ = some (us' k) ∧ PV (us' k) (ls k) (fs k) X)) := fun X hX' => by
        have hh := Ext.trans (Ext.draw hX) hX'
        have h1 := hA.out.ext hh
        have h2 := hB.out.ext hh
        obtain ⟨_, e1, q1⟩ := h1.at k hlt
        obtain ⟨_, e2, q2⟩ := h2.at k hlt
        rw [ha] at e1
        rw [hb] at e2
        injection e1 with e1
        injection e2 with e2
        subst e1
        subst e2
        exact ⟨⟨by have := q1.1 0 (by decide); rwa [add_zero'] at this, by have := q1.1 1 (by decide); rwa [add_one'] at this, (h1.2 k hlt).1⟩, by have := q2.1 0 (by decide); rwa [add_zero'] at this, by have := q2.1 1 (by decide); rwa [add_one'] at this, (h2.2 k hlt).1⟩
      subst ha
      subst hb
      replace hX := hideit hX
      replace hlt := hideit hlt
      go_upto_region 4 with (fail)
      refine wp_region_lit ?_
      refine wpList_run rfl (.int .i64 (k : Int)) (by simp [go_sem]) ?_
      simp only [zp0, zp1, zp2, zp3]
      refine wpList_run rfl (.slice (some a) n ac) (by simp [go_sem]) ?_
      simp only [zp0, zp1, zp2, zp3]
      refine wpList_run rfl (.int .i64 (n : Int)) (by simp [go_sem]) ?_
      simp only [zp0, zp1, zp2, zp3]
      refine wpList_run rfl (.bool true) (by simp [go_sem, k1]) ?_
      simp only [zp0, zp1, zp2, zp3]
      go_upto_region 6 with (fail)
      replace hX := hideit (Ext.draw hX.out)
      refine wp_region_lad (fun X => Ext wr.drew X) [(false, 0), (false, 1), (false, 2), (false, 3), (false, 4), (false, 5), (false, 6), (false, 7), (false, 8), (false, 9), (false, 10), (false, 11), (false, 12), (false, 13), (false, 14), (false, 15), (false, 16), (false, 17), (false, 18), (false, 19), (false, 20), (false, 21), (false, 22), (false, 23), (false, 24), (false, 25)] (by kernel_rfl) (by kernel_rfl) (by decide +kernel) (by decide +kernel) (by decide +kernel) (by decide +kernel) (Ext.refl _) ?_
      refine wpX_f _ (.slice (some a) n ac) rfl rfl (fun X _ => by simp [go_sem]) ?_
      simp only [List.getElem_toArray, List.getElem_cons_zero, Act.put, List.setIfInBounds_toArray, List.set_cons_zero, List.set_cons_succ]
      refine wpX_f _ (.int .i64 (k : Int)) rfl rfl (fun X _ => by simp [go_sem]) ?_
      simp only [zp4, zp5, zp6, zp0, zp1, zp2, zp3]
      refine wpX_f _ (.pointer (some (a.add (k * 2)))) rfl rfl (fun X _ => by simp [go_sem, k1]) ?_
      simp only [zp4, zp5, zp6, zp0, zp1, zp2, zp3]
      refine wpX_f _ (.pointer (some (a.add (k * 2)))) rfl rfl (fun X _ => by simp [go_sem]) ?_
      simp only [zp4, zp5, zp6, zp0, zp1, zp2, zp3]
      refine wpX_f _ (.int .i64 (bs k)) rfl rfl (fun X hX => (by have q := (hL.out X hX).1.1; simp [go_sem, q])) ?_
      simp only [zp4, zp5, zp6, zp0, zp1, zp2, zp3]
      refine wpX_f _ (.slice (some b) n bc) rfl rfl (fun X _ => by simp [go_sem]) ?_
      simp only [zp4, zp5, zp6, zp0, zp1, zp2, zp3]
      refine wpX_f _ (.int .i64 (k : Int)) rfl rfl (fun X _ => by simp [go_sem]) ?_
      simp only [zp4, zp5, zp6, zp0, zp1, zp2, zp3]
      refine wpX_f _ (.pointer (some (b.add (k * 2)))) rfl rfl (fun X _ => by simp [go_sem, k1]) ?_
      simp only [zp4, zp5, zp6, zp0, zp1, zp2, zp3]
      refine wpX_f _ (.pointer (some (b.add (k * 2)))) rfl rfl (fun X _ => by simp [go_sem]) ?_
      simp only [zp4, zp5, zp6, zp0, zp1, zp2, zp3]
      refine wpX_f _ (.int .i64 (bs k)) rfl rfl (fun X hX => (by have q := (hL.out X hX).2.1; simp [go_sem, q])) ?_
      simp only [zp4, zp5, zp6, zp0, zp1, zp2, zp3]
      refine wpX_f _ (.bool false) rfl rfl (fun X _ => by simp [go_sem]) ?_
      simp only [zp4, zp5, zp6, zp0, zp1, zp2, zp3]
      refine wpX_f _ (.bool false) rfl rfl (fun X _ => by simp [go_sem]) ?_
      simp only [zp4, zp5, zp6, zp0, zp1, zp2, zp3]
      refine wpX_f _ (.slice (some a) n ac) rfl rfl (fun X _ => by simp [go_sem]) ?_
      simp only [zp4, zp5, zp6, zp0, zp1, zp2, zp3]
      refine wpX_f _ (.int .i64 (k : Int)) rfl rfl (fun X _ => by simp [go_sem]) ?_
      simp only [zp4, zp5, zp6, zp0, zp1, zp2, zp3]
      refine wpX_f _ (.pointer (some (a.add (k * 2)))) rfl rfl (fun X _ => by simp [go_sem, k1]) ?_
      simp only [zp4, zp5, zp6, zp0, zp1, zp2, zp3]
      refine wpX_f _ (.pointer (some ⟨(a.add (k * 2)).block, (a.add (k * 2)).off + 1, none⟩)) rfl rfl (fun X _ => by simp [go_sem]) ?_
      simp only [zp4, zp5, zp6, zp0, zp1, zp2, zp3]
      refine wpX_f _ (us k) rfl rfl (fun X hX => (by have q := (hL.out X hX).1.2.1; simp [go_sem, q])) ?_
      simp only [zp4, zp5, zp6, zp0, zp1, zp2, zp3]
      refine wpX_f _ (.string (bS (ls k) (fs k))) rfl rfl (fun X hX => (by have q := convQ _ _ _ X (hL.out X hX).1.2.2; simp [go_sem, q])) ?_
      simp only [zp4, zp5, zp6, zp0, zp1, zp2, zp3]
      refine wpX_f _ (.slice (some b) n bc) rfl rfl (fun X _ => by simp [go_sem]) ?_
      simp only [zp4, zp5, zp6, zp0, zp1, zp2, zp3]
      refine wpX_f _ (.int .i64 (k : Int)) rfl rfl (fun X _ => by simp [go_sem]) ?_
      simp only [zp4, zp5, zp6, zp0, zp1, zp2, zp3]
      refine wpX_f _ (.pointer (some (b.add (k * 2)))) rfl rfl (fun X _ => by simp [go_sem, k1]) ?_
      simp only [zp4, zp5, zp6, zp0, zp1, zp2, zp3]
      refine wpX_f _ (.pointer (some ⟨(b.add (k * 2)).block, (b.add (k * 2)).off + 1, none⟩)) rfl rfl (fun X _ => by simp [go_sem]) ?_
      simp only [zp4, zp5, zp6, zp0, zp1, zp2, zp3]
      refine wpX_f _ (us' k) rfl rfl (fun X hX => (by have q := (hL.out X hX).2.2.1; simp [go_sem, q])) ?_
      simp only [zp4, zp5, zp6, zp0, zp1, zp2, zp3]
      refine wpX_f _ (.string (bS (ls k) (fs k))) rfl rfl (fun X hX => (by have q := convQ _ _ _ X (hL.out X hX).2.2.2; simp [go_sem, q])) ?_
      simp only [zp4, zp5, zp6, zp0, zp1, zp2, zp3]
      refine wpX_f _ (.bool false) rfl rfl (fun X _ => by simp [go_sem]) ?_
      simp only [zp4, zp5, zp6, zp0, zp1, zp2, zp3]
      refine wpX_f _ (.bool false) rfl rfl (fun X _ => by simp [go_sem]) ?_
      simp only [zp4, zp5, zp6, zp0, zp1, zp2, zp3]
      refine wpX_nil ?_
      go_upto_region 5 with (fail)
      refine wp_region_lit ?_
      refine wpList_run rfl (.int .i64 (k : Int)) (by simp [go_sem]) ?_
      simp only [zp0, zp1, zp2, zp3]
      refine wpList_run rfl (.int .i64 ((k + 1 : Nat) : Int)) (by simp [go_sem, ek]) ?_
      simp only [zp0, zp1, zp2, zp3]
      refine wpList_run rfl (.int .i64 ((k + 1 : Nat) : Int)) (by simp [go_sem]) ?_
      simp only [zp0, zp1, zp2, zp3]
      go_wp2
      refine ⟨⟨k + 1, by have := hlt.out; omega, rfl, hX.out⟩, by have := hlt.out; have := hn.out; simp [intOf]; omega⟩
    · obtain rfl : k = n := by omega
      have k1 : ¬ (k : Int) < (k : Int) := by omega
      replace hX := hideit hX
      go_upto_region 4 with (fail)
      refine wp_region_lit ?_
      refine wpList_run rfl (.int .i64 (k : Int)) (by simp [go_sem]) ?_
      simp only [zp0, zp1, zp2, zp3]
      refine wpList_run rfl (.slice ao k ac) (by simp [go_sem]) ?_
      simp only [zp0, zp1, zp2, zp3]
      refine wpList_run rfl (.int .i64 (k : Int)) (by simp [go_sem]) ?_
      simp only [zp0, zp1, zp2, zp3]
      refine wpList_run rfl (.bool false) (by simp [go_sem, k1]) ?_
      simp only [zp0, zp1, zp2, zp3]
      go_upto_region 8 with (fail)
      refine wp_region_lit ?_
      refine wpList_run rfl (.bool true) (by simp [go_sem]) ?_
      simp only [zp0, zp1, zp2, zp3]
      go_wp2
      go_ret
      exact ⟨rfl, hX.out⟩
end Go.Proofs.YtiakkclabgelfaaDoor
namespace Go.Proofs.YtiakkclabgelfaaDoor
open Go.RowKit Go.BigFrame Go.Maps
set_option linter.unusedVariables false
set_option maxRecDepth 20000
def ApQ (j p fi co : Nat) (nu : BitVec 64) (us9 : Nat) (F : Nat → Prop) (N : Nat) (D : Nat → Nat → BitVec 8) (C : Nat) (n : Nat) (bs : Nat → Int) (ls : Nat → Nat) (fs : Nat → Nat → BitVec 8) (w : World) (e : Ending) (w' : World) : Prop :=
  (∃ c : Int, c ≠ 0 ∧ e = .returned (.int .i64 c) ∧ Ext w w') ∨ (okT nu n bs ls fs ∧ ¬ fgL fi co N n bs ∧ n ≤ rmN co us9 true ∧ e = .returned (.int .i64 0) ∧ ∃ F' A', JR j p fi co (nu + 1) (us9 + (n + 2)) true F' N A' (apD D (fi + 1 + us9) n (trF nu (tmK ls fs n) n bs fs)) (C + (n + 2)) w' ∧ Keeps (fun i => F i ∨ i = j) w w' ∧ ∀ b, F' b → F b ∨ w.heap.size ≤ b)
theorem append_any (j p fi co : Nat) (nu : BitVec 64) (us9 : Nat) (F : Nat → Prop) (N : Nat) (A D : Nat → Nat → BitVec 8) (C : Nat) (v0 : Value) (n : Nat) (bs : Nat → Int) (us : Nat → Value) (ls : Nat → Nat) (fs : Nat → Nat → BitVec 8) (w : World) (hJ : JR j p fi co nu us9 true F N A D C w) (hL : RLs v0 n bs us ls fs w) (hn : n ≤ 4398046511104) (hbi : ∀ i, i < n → okI (bs i)) (hT : TabC w) (hu : us9 ≤ 1000) (hC4 : C + 256 ≤ 4398046511104) : Calls Tryd.prog 6 #[.pointer (some ⟨j, 0, none⟩), v0] w (ApQ j p fi co nu us9 F N D C n bs ls fs w) := by
  by_cases h1 : okT nu n bs ls fs
  · by_cases h2 : fgL fi co N n bs
    · exact (append_arg2 j p fi co nu us9 true F N A D C v0 n bs us ls fs w hJ hL hn hbi hT h1 h2).mono fun e w' ⟨a, b⟩ => .inl ⟨1, by decide, a, b⟩
    · by_cases h3 : moN co < n
      · exact (append_long j p fi co nu us9 true F N A D C v0 n bs us ls fs w hJ hL hn hbi hT h1 h2 h3).mono fun e w' ⟨a, b⟩ => .inl ⟨3, by decide, a, b⟩
      · by_cases h4 : n ≤ rmN co us9 true
        · refine (append_ok j p fi co nu us9 F N A D C v0 n bs us ls fs w hJ hL hn hbi hT h1 h2 h4 hC4).mono ?_
          rintro e w' ⟨a, F', b, c, d⟩
          exact .inr ⟨h1, h2, h4, a, F', _, b, c, d⟩
        · have n1 := h1.1.2.2.1
          exact (append_full j p fi co nu us9 true F N A D C v0 n bs us ls fs w hJ hL (by omega) hbi hT h1 h2 (by omega) (by omega) hu).mono fun e w' ⟨a, b⟩ => .inl ⟨2, by decide, a, b⟩
  · exact (append_arg1 j p fi co nu us9 true F N A D C v0 n bs us ls fs w hJ hL hn hbi h1).mono fun e w' ⟨a, b⟩ => .inl ⟨1, by decide, a, b⟩
structure CS (w : World) (j p k : Nat) (nx : BitVec 64) (m9 : Nat) (av : Value) (n0 : BitVec 64) (K : Nat) (tn : Nat → Nat) (tb : Nat → Nat → Int) (tl : Nat → Nat → Nat) (tf : Nat → Nat → Nat → BitVec 8) (us : Nat → Value) (F : Nat → Prop) (A D : Nat → Nat → BitVec 8) (C : Nat) (X : World) : Prop where
  chn : CHN D n0 K tn tb tl tf
  jr : JR j p 0 30 nx (ofN tn K) true F 60 A D C X
  enx : nx = nuK n0 K
  em : m9 = smN tn K
  fr : ∀ i, F i → w.heap.size ≤ i
  ex : Ext w X
  own : OwnK 2 w.heap.size 47 av m9 (rdC (caN 0 tn tb K) us) X
  sep : ∀ b, av.ownBlock = some b → ¬ F b ∧ b ≠ j
  jl : w.heap.size ≤ j
  byt : ∀ i, i < m9 → PV (us i) (caN 0 tn tl K i) (caN (fun _ => 0) tn tf K i) w ∧ caN 0 tn tl K i ≤ 140737488355328
  lo : 31 ≤ nx.toNat
  hi : nx.toNat ≤ 31 + k
  cn : C ≤ 100 * k + 3
theorem OwnK.catc {B m n cap : Nat} {v : Value} {bs bs' : Nat → Int} {us us' : Nat → Value} {a : Addr} {X : World} (h : OwnK 2 B 47 v m (rdC bs us) X) (hc : ∀ j, j < n * 2 → X.cell? (a.add j) = some (rdC bs' us' j)) (hf : ∀ i, i < n → (us' i).oneCell' = true) (hB : B ≤ X.heap.size) (hm : m + n ≤ 1000000) (ty : TypeId) :
    ∃ v' Y, (Builtin.append_ #[22, 22] ty #[v, .slice (some a) n cap]).run Tryd.prog X = .ok v' Y ∧ OwnK 2 B 47 v' (m + n) (rdC (catN m bs bs') (catN m us us')) Y ∧ X.grownBy Y v.ownBlock ∧ (v'.ownBlock = v.ownBlock ∨ v'.ownBlock = some X.heap.size) := by
  obtain ⟨i, zz, e1, e2, e3, e4, e5⟩ := elem23.info
  obtain ⟨v', Y, a1, a2, a3, _, a5⟩ := run_append_own_at (P := Tryd.prog) X B 22 ty 47 i zz 2 32 elem23.slice e1 e2 e3 e4 e5 (by decide) v m (row (m * 2) (rdC bs us)) h a n cap (row (n * 2) (rdC bs' us')) (by rw [row_length]) (fun j x hj => by
    obtain ⟨hj', rfl⟩ := row_some hj
    exact hc j hj') (fun x hx => by
    obtain ⟨j, hj, rfl⟩ := List.mem_map.1 hx
    have hj' : j < n * 2 := by simpa using hj
    unfold rdC
    split
    · rfl
    · exact hf _ (by omega)) (by unfold maxLen; omega) (by omega) (by omega)
  refine ⟨v', Y, a1, ?_, a3, a5⟩
  unfold OwnK
  have hrw := row_append (m * 2) (n * 2) (rdC bs us) (rdC bs' us') (rdC (catN m bs bs') (catN m us us')) (fun j hj => by
    unfold rdC
    rw [catN_lo _ _ (by omega), catN_lo _ _ (by omega)]) (fun j hj => by
    unfold rdC
    rw [catN_hi _ _ (by omega), catN_hi _ _ (by omega), show (m * 2 + j) / 2 - m = j / 2 by omega, show (m * 2 + j) % 2 = j % 2 by omega])
  rw [Nat.add_mul, ← hrw]
  exact a2
theorem smN_congr {tn tn' : Nat → Nat} : ∀ K, (∀ k, k < K → tn k = tn' k) → smN tn K = smN tn' K
  | 0, _ => rfl
  | K + 1, h => by
    show smN tn K + tn K = smN tn' K + tn' K
    rw [smN_congr K fun k hk => h k (by omega), h K (by omega)]
theorem caN_congr {α : Type} {d : α} {tn tn' : Nat → Nat} {t t' : Nat → Nat → α} : ∀ K, (∀ k, k < K → tn k = tn' k ∧ t k = t' k) → caN d tn t K = caN d tn' t' K
  | 0, _ => rfl
  | K + 1, h => by
    show catN (smN tn K) (caN d tn t K) (t K) = catN (smN tn' K) (caN d tn' t' K) (t' K)
    rw [caN_congr K fun k hk => h k (by omega), smN_congr K fun k hk => (h k (by omega)).1, (h K (by omega)).2]
theorem caN_up {α : Type} (d : α) (tn : Nat → Nat) (t : Nat → Nat → α) (K n : Nat) (g : Nat → α) : caN d (up1 tn K n) (up1 t K g) (K + 1) = catN (smN tn K) (caN d tn t K) g := by
  show catN (smN (up1 tn K n) K) (caN d (up1 tn K n) (up1 t K g) K) (up1 t K g K) = _
  rw [caN_congr K fun k hk => ⟨up1_other _ (by omega) _, up1_other _ (by omega) _⟩, smN_congr K fun k hk => up1_other _ (by omega) _, up1_same]
theorem smN_up (tn : Nat → Nat) (K n : Nat) : smN (up1 tn K n) (K + 1) = smN tn K + n := by
  show smN (up1 tn K n) K + up1 tn K n K = _
  rw [smN_congr K fun k hk => up1_other _ (by omega) _, up1_same]
theorem ofN_up (tn : Nat → Nat) (K n : Nat) : ofN (up1 tn K n) (K + 1) = ofN tn K + (n + 2) := by
  show ofN (up1 tn K n) K + (up1 tn K n K + 2) = _
  rw [ofN_congr K fun k hk => up1_other _ (by omega) _, up1_same]
theorem CS.ext {w X Y : World} {j p k m9 K C : Nat} {nx n0 : BitVec 64} {av : Value} {tn : Nat → Nat} {tb : Nat → Nat → Int} {tl : Nat → Nat → Nat} {tf : Nat → Nat → Nat → BitVec 8} {us : Nat → Value} {F : Nat → Prop} {A D : Nat → Nat → BitVec 8} (h : CS w j p k nx m9 av n0 K tn tb tl tf us F A D C X) (e : Ext X Y) : CS w j p k nx m9 av n0 K tn tb tl tf us F A D C Y :=
  ⟨h.chn, h.jr.ext e, h.enx, h.em, h.fr, Ext.trans h.ex e, h.own.ext e, h.sep, h.jl, h.byt, h.lo, h.hi, h.cn⟩
theorem CS.next {w X : World} {j p k m9 K C : Nat} {nx n0 : BitVec 64} {av : Value} {tn : Nat → Nat} {tb : Nat → Nat → Int} {tl : Nat → Nat → Nat} {tf : Nat → Nat → Nat → BitVec 8} {us : Nat → Value} {F : Nat → Prop} {A D : Nat → Nat → BitVec 8} (h : CS w j p k nx m9 av n0 K tn tb tl tf us F A D C X) : CS w j p (k + 1) nx m9 av n0 K tn tb tl tf us F A D C X :=
  ⟨h.chn, h.jr, h.enx, h.em, h.fr, h.ex, h.own, h.sep, h.jl, h.byt, h.lo, by have := h.hi; omega, by have := h.cn; omega⟩
end Go.Proofs.YtiakkclabgelfaaDoor
