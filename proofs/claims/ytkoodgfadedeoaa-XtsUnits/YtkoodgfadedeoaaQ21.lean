/-
  One block under one key: the rounds, one by one. A key of zeros, and three blocks under it: the rounds, one by one.
-/
import Derived.Test.YtkoodgfadedeoaaQ19
import Derived.Test.YtkoodgfadedeoaaQ20
import Derived.Test.YtkoodgfadedeoaaQ15
namespace Go.Proofs.Ytkoodgfadedeoaa
def sl (j : Nat) : BitVec 8 := ([0#8, 1#8, 2#8, 3#8, 4#8, 5#8, 6#8, 7#8, 8#8, 9#8, 10#8, 11#8, 12#8, 13#8, 14#8, 15#8, 214#8, 170#8, 116#8, 253#8, 210#8, 175#8, 114#8, 250#8, 218#8, 166#8, 120#8, 241#8, 214#8, 171#8, 118#8, 254#8, 182#8, 146#8, 207#8, 11#8, 100#8, 61#8, 189#8, 241#8, 190#8, 155#8, 197#8, 0#8, 104#8, 48#8, 179#8, 254#8, 182#8, 255#8, 116#8, 78#8, 210#8, 194#8, 201#8, 191#8, 108#8, 89#8, 12#8, 191#8, 4#8, 105#8, 191#8, 65#8, 71#8, 247#8, 247#8, 188#8, 149#8, 53#8, 62#8, 3#8, 249#8, 108#8, 50#8, 188#8, 253#8, 5#8, 141#8, 253#8, 60#8, 170#8, 163#8, 232#8, 169#8, 159#8, 157#8, 235#8, 80#8, 243#8, 175#8, 87#8, 173#8, 246#8, 34#8, 170#8, 94#8, 57#8, 15#8, 125#8, 247#8, 166#8, 146#8, 150#8, 167#8, 85#8, 61#8, 193#8, 10#8, 163#8, 31#8, 107#8, 20#8, 249#8, 112#8, 26#8, 227#8, 95#8, 226#8, 140#8, 68#8, 10#8, 223#8, 77#8, 78#8, 169#8, 192#8, 38#8, 71#8, 67#8, 135#8, 53#8, 164#8, 28#8, 101#8, 185#8, 224#8, 22#8, 186#8, 244#8, 174#8, 191#8, 122#8, 210#8, 84#8, 153#8, 50#8, 209#8, 240#8, 133#8, 87#8, 104#8, 16#8, 147#8, 237#8, 156#8, 190#8, 44#8, 151#8, 78#8, 19#8, 17#8, 29#8, 127#8, 227#8, 148#8, 74#8, 23#8, 243#8, 7#8, 167#8, 139#8, 77#8, 43#8, 48#8, 197#8] : List (BitVec 8)).getD j 0#8
def cl (j : Nat) : BitVec 8 := ([1#8, 2#8, 2#8, 2#8, 2#8, 4#8, 4#8, 4#8, 4#8, 8#8, 8#8, 8#8, 8#8, 16#8, 16#8, 16#8, 16#8, 32#8, 32#8, 32#8, 32#8, 64#8, 64#8, 64#8, 64#8, 128#8, 128#8, 128#8, 128#8, 27#8, 27#8, 27#8, 27#8, 54#8, 54#8, 54#8, 54#8, 108#8, 108#8, 108#8, 108#8] : List (BitVec 8)).getD j 0#8
def el (n j : Nat) : BitVec 8 := ([0#8, 16#8, 32#8, 48#8, 64#8, 80#8, 96#8, 112#8, 128#8, 144#8, 160#8, 176#8, 192#8, 208#8, 224#8, 240#8, 137#8, 216#8, 16#8, 232#8, 133#8, 90#8, 206#8, 104#8, 45#8, 24#8, 67#8, 216#8, 203#8, 18#8, 143#8, 228#8, 73#8, 21#8, 89#8, 143#8, 85#8, 229#8, 215#8, 160#8, 218#8, 202#8, 148#8, 250#8, 31#8, 10#8, 99#8, 247#8, 250#8, 99#8, 106#8, 40#8, 37#8, 179#8, 57#8, 201#8, 64#8, 102#8, 138#8, 49#8, 87#8, 36#8, 77#8, 23#8, 36#8, 114#8, 64#8, 35#8, 105#8, 102#8, 179#8, 250#8, 110#8, 210#8, 117#8, 50#8, 136#8, 66#8, 91#8, 108#8, 200#8, 22#8, 119#8, 188#8, 155#8, 122#8, 201#8, 59#8, 37#8, 2#8, 121#8, 146#8, 176#8, 38#8, 25#8, 150#8, 198#8, 47#8, 225#8, 9#8, 247#8, 94#8, 237#8, 195#8, 204#8, 121#8, 57#8, 93#8, 132#8, 249#8, 207#8, 93#8, 209#8, 135#8, 108#8, 15#8, 121#8, 196#8, 48#8, 10#8, 180#8, 85#8, 148#8, 173#8, 214#8, 111#8, 244#8, 31#8, 253#8, 227#8, 186#8, 210#8, 5#8, 229#8, 208#8, 215#8, 53#8, 71#8, 150#8, 78#8, 241#8, 254#8, 55#8, 241#8, 189#8, 110#8, 124#8, 61#8, 242#8, 181#8, 119#8, 158#8, 11#8, 97#8, 33#8, 110#8, 139#8, 16#8, 182#8, 137#8] : List (BitVec 8)).getD (16 * n + j) 0#8
def rl (n j : Nat) : BitVec 8 := ([99#8, 202#8, 183#8, 4#8, 9#8, 83#8, 208#8, 81#8, 205#8, 96#8, 224#8, 231#8, 186#8, 112#8, 225#8, 140#8, 167#8, 97#8, 202#8, 155#8, 151#8, 190#8, 139#8, 69#8, 216#8, 173#8, 26#8, 97#8, 31#8, 201#8, 115#8, 105#8, 59#8, 89#8, 203#8, 115#8, 252#8, 217#8, 14#8, 224#8, 87#8, 116#8, 34#8, 45#8, 192#8, 103#8, 251#8, 104#8, 45#8, 251#8, 2#8, 52#8, 63#8, 109#8, 18#8, 221#8, 9#8, 51#8, 126#8, 199#8, 91#8, 54#8, 227#8, 240#8, 54#8, 64#8, 9#8, 38#8, 249#8, 51#8, 109#8, 45#8, 159#8, 181#8, 157#8, 35#8, 196#8, 44#8, 57#8, 80#8, 232#8, 71#8, 245#8, 101#8, 20#8, 218#8, 221#8, 226#8, 63#8, 119#8, 182#8, 79#8, 231#8, 247#8, 212#8, 144#8, 180#8, 21#8, 248#8, 1#8, 104#8, 88#8, 85#8, 46#8, 75#8, 182#8, 18#8, 76#8, 95#8, 153#8, 138#8, 76#8, 62#8, 23#8, 80#8, 118#8, 182#8, 28#8, 4#8, 103#8, 141#8, 252#8, 34#8, 149#8, 246#8, 168#8, 191#8, 192#8, 84#8, 17#8, 244#8, 181#8, 107#8, 217#8, 112#8, 14#8, 150#8, 160#8, 144#8, 47#8, 161#8, 187#8, 154#8, 161#8, 122#8, 159#8, 16#8, 39#8, 137#8, 213#8, 245#8, 11#8, 43#8, 239#8, 253#8, 159#8, 61#8, 202#8, 78#8, 167#8] : List (BitVec 8)).getD (16 * n + j) 0#8
def pl (j : Nat) : BitVec 8 := ([0#8, 17#8, 34#8, 51#8, 68#8, 85#8, 102#8, 119#8, 136#8, 153#8, 170#8, 187#8, 204#8, 221#8, 238#8, 255#8] : List (BitVec 8)).getD j 0#8
def ex (j : Nat) : BitVec 8 := ([105#8, 196#8, 224#8, 216#8, 106#8, 123#8, 4#8, 48#8, 216#8, 205#8, 183#8, 128#8, 112#8, 180#8, 197#8, 90#8] : List (BitVec 8)).getD j 0#8
theorem wordAt_congr {k : Nat} {bx S S' : Nat → BitVec 8} {p : Nat} {c : BitVec 8} {i : Nat} (hp : 1 ≤ p) (h : ∀ j, j < 4 * p → S j = S' j) (hi : i < 4) : wordAt k bx p S c i = wordAt k bx p S' c i := by
  unfold wordAt
  rw [h (4 * (p - 1) + 1) (by omega), h (4 * (p - 1) + (i + 1) % 4) (by omega), h (4 * (p - 1) + i) (by omega)]
theorem chk_words : ∀ m, m < 40 → ∀ i, i < 4 → xB (sl (4 * m + i)) (wordAt 4 bxT (m + 4) sl (cl m) i) = sl (16 + 4 * m + i) := by decide +kernel
theorem chk_const : ∀ m, m < 40 → (if (m + 4) % 4 = 0 then twT (cl m).toNat else cl m) = cl (m + 1) := by decide +kernel
theorem wordK_s (k : Nat) (bx tw key : Nat → BitVec 8) (m : Nat) : wordK k bx tw key (m + 1) = (partS k (m + k) (wordAt k bx (m + k) (wordK k bx tw key m).1 (wordK k bx tw key m).2) (wordK k bx tw key m).1 4, if (m + k) % k = 0 then tw (wordK k bx tw key m).2.toNat else (wordK k bx tw key m).2) := rfl
theorem words_lives : ∀ m, m ≤ 40 → (wordK 4 bxT twT sl m).2 = cl m ∧ ∀ j, (wordK 4 bxT twT sl m).1 j = if j < 16 + 4 * m then sl j else 0#8
  | 0, _ => ⟨rfl, fun _ => rfl⟩
  | m + 1, hm => by
    obtain ⟨h1, h2⟩ := words_lives m (by omega)
    rw [wordK_s]
    refine ⟨?_, fun j => ?_⟩
    · show (if (m + 4) % 4 = 0 then twT (wordK 4 bxT twT sl m).2.toNat else (wordK 4 bxT twT sl m).2) = _
      rw [h1, chk_const m (by omega)]
    · show partS 4 (m + 4) (wordAt 4 bxT (m + 4) (wordK 4 bxT twT sl m).1 (wordK 4 bxT twT sl m).2) (wordK 4 bxT twT sl m).1 4 j = _
      unfold partS
      by_cases hin : 4 * (m + 4) ≤ j ∧ j < 4 * (m + 4) + 4
      · obtain ⟨i, rfl⟩ : ∃ i, j = 16 + 4 * m + i := ⟨j - (16 + 4 * m), by omega⟩
        have hi : i < 4 := by omega
        rw [if_pos hin, if_pos (by omega), h2, if_pos (by omega), show 16 + 4 * m + i - 4 * 4 = 4 * m + i by omega, show 16 + 4 * m + i - 4 * (m + 4) = i by omega, h1,
          wordAt_congr (S' := sl) (by omega) (fun j hj => by rw [h2, if_pos (by omega)]) hi]
        exact chk_words m (by omega) i hi
      · rw [if_neg hin, h2]
        by_cases hlo : j < 16 + 4 * m
        · rw [if_pos hlo, if_pos (by omega)]
        · rw [if_neg hlo, if_neg (by omega)]
theorem sched_lives (j : Nat) (hj : j < 176) : schedK 4 sl j = sl j := by
  unfold schedK keyP
  rw [if_pos (by omega)]
  have h := (words_lives 40 (Nat.le_refl _)).2 j
  rw [if_pos (by omega)] at h
  exact h
theorem chk0 : ∀ j, j < 16 → xB (pl j) (sl j) = el 0 j := by decide +kernel
theorem chk1 : ∀ n, n < 10 → ∀ j, j < 16 → bxT (el n j).toNat = rl n j := by decide +kernel
theorem chk2 : ∀ n, n < 9 → ∀ j, j < 16 → xB (mixF twT (turnF 1 (rl n)) j) (sl ((n + 1) * 16 + j)) = el (n + 1) j := by decide +kernel
theorem chk3 : ∀ j, j < 16 → xB (turnF 1 (rl 9) j) (sl (10 * 16 + j)) = ex j := by decide +kernel
theorem enc_lives_state : ∀ n, n ≤ 9 → Eq16 (encK (schedK 4 sl) bxT twT pl n) (el n)
  | 0, _ => fun j hj => by
    rw [encK_z]
    unfold addF kF
    rw [Nat.zero_mul, Nat.zero_add, sched_lives j (by omega)]
    exact chk0 j hj
  | n + 1, hn => by
    have ih := enc_lives_state n (by omega)
    have h1 : Eq16 (replF bxT (encK (schedK 4 sl) bxT twT pl n)) (rl n) := ih.repl.trans (fun j hj => chk1 n (by omega) j hj)
    intro j hj
    rw [encK_s]
    unfold addF kF
    rw [sched_lives _ (by omega), h1.turn.mix j hj]
    exact chk2 n (by omega) j hj
theorem enc_lives : Eq16 (encF (schedK 4 sl) bxT twT 10 pl) ex := by
  have h1 : Eq16 (replF bxT (encK (schedK 4 sl) bxT twT pl 9)) (rl 9) := (enc_lives_state 9 (Nat.le_refl _)).repl.trans (fun j hj => chk1 9 (by omega) j hj)
  intro j hj
  unfold encF addF kF
  rw [sched_lives _ (by omega), h1.turn j hj]
  exact chk3 j hj
end Go.Proofs.Ytkoodgfadedeoaa
namespace Go.Proofs.Ytkoodgfadedeoaa
def zs (j : Nat) : BitVec 8 := ([0#8, 0#8, 0#8, 0#8, 0#8, 0#8, 0#8, 0#8, 0#8, 0#8, 0#8, 0#8, 0#8, 0#8, 0#8, 0#8, 98#8, 99#8, 99#8, 99#8, 98#8, 99#8, 99#8, 99#8, 98#8, 99#8, 99#8, 99#8, 98#8, 99#8, 99#8, 99#8, 155#8, 152#8, 152#8, 201#8, 249#8, 251#8, 251#8, 170#8, 155#8, 152#8, 152#8, 201#8, 249#8, 251#8, 251#8, 170#8, 144#8, 151#8, 52#8, 80#8, 105#8, 108#8, 207#8, 250#8, 242#8, 244#8, 87#8, 51#8, 11#8, 15#8, 172#8, 153#8, 238#8, 6#8, 218#8, 123#8, 135#8, 106#8, 21#8, 129#8, 117#8, 158#8, 66#8, 178#8, 126#8, 145#8, 238#8, 43#8, 127#8, 46#8, 43#8, 136#8, 248#8, 68#8, 62#8, 9#8, 141#8, 218#8, 124#8, 187#8, 243#8, 75#8, 146#8, 144#8, 236#8, 97#8, 75#8, 133#8, 20#8, 37#8, 117#8, 140#8, 153#8, 255#8, 9#8, 55#8, 106#8, 180#8, 155#8, 167#8, 33#8, 117#8, 23#8, 135#8, 53#8, 80#8, 98#8, 11#8, 172#8, 175#8, 107#8, 60#8, 198#8, 27#8, 240#8, 155#8, 14#8, 249#8, 3#8, 51#8, 59#8, 169#8, 97#8, 56#8, 151#8, 6#8, 10#8, 4#8, 81#8, 29#8, 250#8, 159#8, 177#8, 212#8, 216#8, 226#8, 138#8, 125#8, 185#8, 218#8, 29#8, 123#8, 179#8, 222#8, 76#8, 102#8, 73#8, 65#8, 180#8, 239#8, 91#8, 203#8, 62#8, 146#8, 226#8, 17#8, 35#8, 233#8, 81#8, 207#8, 111#8, 143#8, 24#8, 142#8] : List (BitVec 8)).getD j 0#8
theorem chz_words : ∀ m, m < 40 → ∀ i, i < 4 → xB (zs (4 * m + i)) (wordAt 4 bxT (m + 4) zs (cl m) i) = zs (16 + 4 * m + i) := by decide +kernel
theorem words_z : ∀ m, m ≤ 40 → (wordK 4 bxT twT zs m).2 = cl m ∧ ∀ j, (wordK 4 bxT twT zs m).1 j = if j < 16 + 4 * m then zs j else 0#8
  | 0, _ => ⟨rfl, fun _ => rfl⟩
  | m + 1, hm => by
    obtain ⟨h1, h2⟩ := words_z m (by omega)
    rw [wordK_s]
    refine ⟨?_, fun j => ?_⟩
    · show (if (m + 4) % 4 = 0 then twT (wordK 4 bxT twT zs m).2.toNat else (wordK 4 bxT twT zs m).2) = _
      rw [h1, chk_const m (by omega)]
    · show partS 4 (m + 4) (wordAt 4 bxT (m + 4) (wordK 4 bxT twT zs m).1 (wordK 4 bxT twT zs m).2) (wordK 4 bxT twT zs m).1 4 j = _
      unfold partS
      by_cases hin : 4 * (m + 4) ≤ j ∧ j < 4 * (m + 4) + 4
      · obtain ⟨i, rfl⟩ : ∃ i, j = 16 + 4 * m + i := ⟨j - (16 + 4 * m), by omega⟩
        have hi : i < 4 := by omega
        rw [if_pos hin, if_pos (by omega), h2, if_pos (by omega), show 16 + 4 * m + i - 4 * 4 = 4 * m + i by omega, show 16 + 4 * m + i - 4 * (m + 4) = i by omega, h1,
          wordAt_congr (S' := zs) (by omega) (fun j hj => by rw [h2, if_pos (by omega)]) hi]
        exact chz_words m (by omega) i hi
      · rw [if_neg hin, h2]
        by_cases hlo : j < 16 + 4 * m
        · rw [if_pos hlo, if_pos (by omega)]
        · rw [if_neg hlo, if_neg (by omega)]
theorem sched_z (j : Nat) (hj : j < 176) : schedK 4 zs j = zs j := by
  unfold schedK keyP
  rw [if_pos (by omega)]
  have h := (words_z 40 (Nat.le_refl _)).2 j
  rw [if_pos (by omega)] at h
  exact h
section
variable (sl : Nat → BitVec 8) (el rl : Nat → Nat → BitVec 8) (pl ex : Nat → BitVec 8)
theorem enc_by (hs : ∀ j, j < 176 → schedK 4 sl j = sl j) (c0 : ∀ j, j < 16 → xB (pl j) (sl j) = el 0 j) (c1 : ∀ n, n < 10 → ∀ j, j < 16 → bxT (el n j).toNat = rl n j)
    (c2 : ∀ n, n < 9 → ∀ j, j < 16 → xB (mixF twT (turnF 1 (rl n)) j) (sl ((n + 1) * 16 + j)) = el (n + 1) j) (c3 : ∀ j, j < 16 → xB (turnF 1 (rl 9) j) (sl (10 * 16 + j)) = ex j) : Eq16 (encF (schedK 4 sl) bxT twT 10 pl) ex := by
  have st : ∀ n, n ≤ 9 → Eq16 (encK (schedK 4 sl) bxT twT pl n) (el n) := by
    intro n
    induction n with
    | zero =>
      intro _ j hj
      rw [encK_z]
      unfold addF kF
      rw [Nat.zero_mul, Nat.zero_add, hs j (by omega)]
      exact c0 j hj
    | succ n ih =>
      intro hn
      have ih := ih (by omega)
      have h1 : Eq16 (replF bxT (encK (schedK 4 sl) bxT twT pl n)) (rl n) := ih.repl.trans (fun j hj => c1 n (by omega) j hj)
      intro j hj
      rw [encK_s]
      unfold addF kF
      rw [hs _ (by omega), h1.turn.mix j hj]
      exact c2 n (by omega) j hj
  have h1 : Eq16 (replF bxT (encK (schedK 4 sl) bxT twT pl 9)) (rl 9) := (st 9 (Nat.le_refl _)).repl.trans (fun j hj => c1 9 (by omega) j hj)
  intro j hj
  unfold encF addF kF
  rw [hs _ (by omega), h1.turn j hj]
  exact c3 j hj
end
def pz0 (j : Nat) : BitVec 8 := ([0#8, 0#8, 0#8, 0#8, 0#8, 0#8, 0#8, 0#8, 0#8, 0#8, 0#8, 0#8, 0#8, 0#8, 0#8, 0#8] : List (BitVec 8)).getD j 0#8
def ez0 (n j : Nat) : BitVec 8 := ([0#8, 0#8, 0#8, 0#8, 0#8, 0#8, 0#8, 0#8, 0#8, 0#8, 0#8, 0#8, 0#8, 0#8, 0#8, 0#8, 1#8, 0#8, 0#8, 0#8, 1#8, 0#8, 0#8, 0#8, 1#8, 0#8, 0#8, 0#8, 1#8, 0#8, 0#8, 0#8, 198#8, 228#8, 228#8, 139#8, 164#8, 135#8, 135#8, 232#8, 198#8, 228#8, 228#8, 139#8, 164#8, 135#8, 135#8, 232#8, 40#8, 45#8, 243#8, 196#8, 106#8, 243#8, 134#8, 37#8, 74#8, 78#8, 144#8, 167#8, 8#8, 144#8, 229#8, 70#8, 171#8, 210#8, 205#8, 254#8, 55#8, 90#8, 181#8, 73#8, 80#8, 160#8, 175#8, 192#8, 117#8, 154#8, 106#8, 95#8, 212#8, 111#8, 79#8, 108#8, 85#8, 184#8, 150#8, 51#8, 126#8, 5#8, 187#8, 61#8, 121#8, 121#8, 222#8, 35#8, 4#8, 242#8, 202#8, 151#8, 7#8, 120#8, 40#8, 69#8, 226#8, 47#8, 1#8, 150#8, 73#8, 197#8, 215#8, 16#8, 183#8, 170#8, 228#8, 197#8, 29#8, 37#8, 45#8, 79#8, 108#8, 146#8, 15#8, 129#8, 148#8, 229#8, 129#8, 80#8, 35#8, 231#8, 140#8, 60#8, 19#8, 33#8, 99#8, 219#8, 170#8, 192#8, 198#8, 87#8, 46#8, 3#8, 203#8, 149#8, 127#8, 254#8, 14#8, 149#8, 81#8, 165#8, 102#8, 53#8, 14#8, 52#8, 124#8, 71#8, 41#8, 41#8, 236#8, 203#8] : List (BitVec 8)).getD (16 * n + j) 0#8
def rz0 (n j : Nat) : BitVec 8 := ([99#8, 99#8, 99#8, 99#8, 99#8, 99#8, 99#8, 99#8, 99#8, 99#8, 99#8, 99#8, 99#8, 99#8, 99#8, 99#8, 124#8, 99#8, 99#8, 99#8, 124#8, 99#8, 99#8, 99#8, 124#8, 99#8, 99#8, 99#8, 124#8, 99#8, 99#8, 99#8, 180#8, 105#8, 105#8, 61#8, 73#8, 23#8, 23#8, 155#8, 180#8, 105#8, 105#8, 61#8, 73#8, 23#8, 23#8, 155#8, 52#8, 216#8, 13#8, 28#8, 2#8, 13#8, 68#8, 63#8, 214#8, 47#8, 96#8, 92#8, 48#8, 96#8, 217#8, 90#8, 98#8, 181#8, 189#8, 187#8, 154#8, 190#8, 213#8, 59#8, 83#8, 224#8, 121#8, 186#8, 157#8, 184#8, 2#8, 207#8, 72#8, 168#8, 132#8, 80#8, 252#8, 108#8, 144#8, 195#8, 243#8, 107#8, 234#8, 39#8, 182#8, 182#8, 29#8, 38#8, 242#8, 137#8, 116#8, 136#8, 197#8, 188#8, 52#8, 110#8, 152#8, 21#8, 124#8, 144#8, 59#8, 166#8, 14#8, 202#8, 169#8, 172#8, 105#8, 166#8, 164#8, 63#8, 216#8, 132#8, 80#8, 79#8, 118#8, 12#8, 34#8, 217#8, 12#8, 83#8, 38#8, 148#8, 100#8, 235#8, 125#8, 253#8, 251#8, 185#8, 172#8, 186#8, 180#8, 91#8, 49#8, 123#8, 31#8, 42#8, 210#8, 187#8, 171#8, 42#8, 209#8, 6#8, 51#8, 150#8, 171#8, 24#8, 16#8, 160#8, 165#8, 165#8, 206#8, 31#8] : List (BitVec 8)).getD (16 * n + j) 0#8
def xz0 (j : Nat) : BitVec 8 := ([102#8, 233#8, 75#8, 212#8, 239#8, 138#8, 44#8, 59#8, 136#8, 76#8, 250#8, 89#8, 202#8, 52#8, 43#8, 46#8] : List (BitVec 8)).getD j 0#8
theorem enc_z0 : Eq16 (encF (schedK 4 zs) bxT twT 10 pz0) xz0 := enc_by zs ez0 rz0 pz0 xz0 sched_z (by decide +kernel) (by decide +kernel) (by decide +kernel) (by decide +kernel)
def pz1 (j : Nat) : BitVec 8 := ([102#8, 233#8, 75#8, 212#8, 239#8, 138#8, 44#8, 59#8, 136#8, 76#8, 250#8, 89#8, 202#8, 52#8, 43#8, 46#8] : List (BitVec 8)).getD j 0#8
def ez1 (n j : Nat) : BitVec 8 := ([102#8, 233#8, 75#8, 212#8, 239#8, 138#8, 44#8, 59#8, 136#8, 76#8, 250#8, 89#8, 202#8, 52#8, 43#8, 46#8, 154#8, 234#8, 39#8, 7#8, 5#8, 174#8, 180#8, 81#8, 136#8, 187#8, 255#8, 64#8, 18#8, 115#8, 173#8, 29#8, 117#8, 109#8, 31#8, 187#8, 90#8, 62#8, 31#8, 249#8, 159#8, 199#8, 56#8, 100#8, 102#8, 162#8, 175#8, 242#8, 242#8, 245#8, 149#8, 80#8, 204#8, 36#8, 96#8, 83#8, 72#8, 153#8, 157#8, 150#8, 170#8, 92#8, 253#8, 182#8, 173#8, 79#8, 11#8, 15#8, 63#8, 73#8, 237#8, 64#8, 200#8, 203#8, 34#8, 229#8, 76#8, 17#8, 180#8, 201#8, 77#8, 190#8, 196#8, 37#8, 200#8, 245#8, 207#8, 232#8, 249#8, 89#8, 91#8, 35#8, 186#8, 87#8, 229#8, 147#8, 229#8, 194#8, 67#8, 199#8, 127#8, 15#8, 190#8, 195#8, 218#8, 111#8, 69#8, 237#8, 220#8, 164#8, 164#8, 200#8, 148#8, 26#8, 71#8, 36#8, 230#8, 212#8, 219#8, 16#8, 237#8, 106#8, 51#8, 202#8, 69#8, 107#8, 235#8, 43#8, 160#8, 228#8, 252#8, 39#8, 229#8, 53#8, 126#8, 54#8, 214#8, 156#8, 62#8, 171#8, 189#8, 136#8, 195#8, 222#8, 100#8, 211#8, 246#8, 199#8, 184#8, 189#8, 173#8, 217#8, 8#8, 208#8, 245#8, 161#8, 146#8, 162#8, 1#8, 145#8] : List (BitVec 8)).getD (16 * n + j) 0#8
def rz1 (n j : Nat) : BitVec 8 := ([51#8, 30#8, 179#8, 72#8, 223#8, 126#8, 113#8, 226#8, 196#8, 41#8, 45#8, 203#8, 116#8, 24#8, 241#8, 49#8, 184#8, 135#8, 204#8, 197#8, 107#8, 228#8, 141#8, 209#8, 196#8, 234#8, 22#8, 9#8, 201#8, 143#8, 149#8, 164#8, 157#8, 60#8, 192#8, 234#8, 190#8, 178#8, 192#8, 153#8, 219#8, 198#8, 7#8, 67#8, 51#8, 58#8, 121#8, 137#8, 137#8, 230#8, 42#8, 83#8, 75#8, 54#8, 208#8, 237#8, 82#8, 238#8, 94#8, 144#8, 172#8, 74#8, 84#8, 78#8, 149#8, 132#8, 43#8, 118#8, 117#8, 59#8, 85#8, 9#8, 232#8, 31#8, 147#8, 217#8, 41#8, 130#8, 141#8, 221#8, 227#8, 174#8, 28#8, 63#8, 232#8, 230#8, 138#8, 155#8, 153#8, 203#8, 57#8, 38#8, 244#8, 91#8, 217#8, 220#8, 217#8, 37#8, 26#8, 198#8, 210#8, 118#8, 174#8, 46#8, 87#8, 168#8, 110#8, 85#8, 134#8, 73#8, 73#8, 232#8, 34#8, 162#8, 160#8, 54#8, 142#8, 72#8, 185#8, 202#8, 85#8, 2#8, 195#8, 116#8, 110#8, 127#8, 233#8, 241#8, 224#8, 105#8, 176#8, 204#8, 217#8, 150#8, 243#8, 5#8, 246#8, 222#8, 178#8, 98#8, 122#8, 196#8, 46#8, 29#8, 67#8, 102#8, 66#8, 198#8, 108#8, 122#8, 149#8, 53#8, 48#8, 112#8, 230#8, 50#8, 79#8, 58#8, 124#8, 129#8] : List (BitVec 8)).getD (16 * n + j) 0#8
def xz1 (j : Nat) : BitVec 8 := ([247#8, 149#8, 189#8, 74#8, 82#8, 226#8, 158#8, 215#8, 19#8, 211#8, 19#8, 250#8, 32#8, 233#8, 141#8, 188#8] : List (BitVec 8)).getD j 0#8
theorem enc_z1 : Eq16 (encF (schedK 4 zs) bxT twT 10 pz1) xz1 := enc_by zs ez1 rz1 pz1 xz1 sched_z (by decide +kernel) (by decide +kernel) (by decide +kernel) (by decide +kernel)
def pz2 (j : Nat) : BitVec 8 := ([204#8, 210#8, 151#8, 168#8, 223#8, 21#8, 89#8, 118#8, 16#8, 153#8, 244#8, 179#8, 148#8, 105#8, 86#8, 92#8] : List (BitVec 8)).getD j 0#8
def ez2 (n j : Nat) : BitVec 8 := ([204#8, 210#8, 151#8, 168#8, 223#8, 21#8, 89#8, 118#8, 16#8, 153#8, 244#8, 179#8, 148#8, 105#8, 86#8, 92#8, 234#8, 10#8, 202#8, 204#8, 31#8, 48#8, 55#8, 26#8, 77#8, 251#8, 19#8, 39#8, 68#8, 27#8, 206#8, 161#8, 205#8, 162#8, 183#8, 70#8, 179#8, 232#8, 228#8, 227#8, 122#8, 0#8, 193#8, 115#8, 48#8, 87#8, 231#8, 249#8, 166#8, 22#8, 82#8, 70#8, 216#8, 58#8, 28#8, 14#8, 8#8, 105#8, 172#8, 150#8, 171#8, 75#8, 202#8, 195#8, 130#8, 191#8, 53#8, 90#8, 123#8, 36#8, 139#8, 27#8, 112#8, 120#8, 39#8, 28#8, 127#8, 82#8, 67#8, 109#8, 243#8, 34#8, 201#8, 63#8, 193#8, 150#8, 78#8, 171#8, 22#8, 133#8, 240#8, 155#8, 245#8, 82#8, 141#8, 235#8, 56#8, 49#8, 245#8, 71#8, 110#8, 250#8, 191#8, 36#8, 168#8, 166#8, 73#8, 231#8, 40#8, 10#8, 140#8, 2#8, 20#8, 18#8, 210#8, 118#8, 184#8, 139#8, 234#8, 170#8, 74#8, 164#8, 67#8, 140#8, 96#8, 54#8, 180#8, 59#8, 94#8, 181#8, 205#8, 222#8, 141#8, 227#8, 13#8, 56#8, 54#8, 178#8, 71#8, 150#8, 73#8, 178#8, 90#8, 114#8, 210#8, 21#8, 10#8, 59#8, 202#8, 138#8, 147#8, 142#8, 244#8, 203#8, 233#8, 85#8, 25#8, 30#8, 185#8, 53#8] : List (BitVec 8)).getD (16 * n + j) 0#8
def rz2 (n j : Nat) : BitVec 8 := ([75#8, 181#8, 136#8, 194#8, 158#8, 89#8, 203#8, 56#8, 202#8, 238#8, 191#8, 109#8, 34#8, 249#8, 177#8, 74#8, 135#8, 103#8, 116#8, 75#8, 192#8, 4#8, 154#8, 162#8, 227#8, 15#8, 125#8, 204#8, 27#8, 175#8, 139#8, 50#8, 189#8, 58#8, 169#8, 90#8, 109#8, 155#8, 105#8, 17#8, 218#8, 99#8, 120#8, 143#8, 4#8, 91#8, 148#8, 153#8, 36#8, 71#8, 0#8, 90#8, 97#8, 128#8, 156#8, 171#8, 48#8, 249#8, 145#8, 144#8, 98#8, 179#8, 116#8, 46#8, 19#8, 8#8, 150#8, 190#8, 33#8, 54#8, 61#8, 175#8, 81#8, 188#8, 204#8, 156#8, 210#8, 0#8, 26#8, 60#8, 13#8, 147#8, 221#8, 117#8, 120#8, 144#8, 47#8, 98#8, 71#8, 151#8, 140#8, 20#8, 230#8, 0#8, 93#8, 233#8, 7#8, 199#8, 230#8, 160#8, 159#8, 45#8, 8#8, 54#8, 194#8, 36#8, 59#8, 148#8, 52#8, 103#8, 100#8, 119#8, 250#8, 201#8, 181#8, 56#8, 108#8, 61#8, 135#8, 172#8, 214#8, 73#8, 26#8, 100#8, 208#8, 5#8, 141#8, 226#8, 88#8, 213#8, 189#8, 29#8, 93#8, 17#8, 215#8, 7#8, 5#8, 55#8, 160#8, 144#8, 59#8, 55#8, 190#8, 64#8, 181#8, 89#8, 103#8, 226#8, 116#8, 126#8, 220#8, 25#8, 191#8, 31#8, 30#8, 252#8, 212#8, 114#8, 86#8, 150#8] : List (BitVec 8)).getD (16 * n + j) 0#8
def xz2 (j : Nat) : BitVec 8 := ([1#8, 145#8, 69#8, 93#8, 74#8, 141#8, 180#8, 243#8, 156#8, 155#8, 54#8, 214#8, 187#8, 214#8, 196#8, 114#8] : List (BitVec 8)).getD j 0#8
theorem enc_z2 : Eq16 (encF (schedK 4 zs) bxT twT 10 pz2) xz2 := enc_by zs ez2 rz2 pz2 xz2 sched_z (by decide +kernel) (by decide +kernel) (by decide +kernel) (by decide +kernel)
theorem byB_ofB (f : Nat → BitVec 8) (j : Nat) (hj : j < 16) : byB (ofB f) j = f j := by
  apply BitVec.eq_of_getLsbD_eq
  intro i hi
  rw [byB_bit _ _ _ hi, ofB_bit _ _ (by omega), show (8 * j + i) / 8 = j by omega, show (8 * j + i) % 8 = i by omega]
theorem ofB_congr {f g : Nat → BitVec 8} (h : Eq16 f g) : ofB f = ofB g := by
  apply BitVec.eq_of_getLsbD_eq
  intro i hi
  rw [ofB_bit _ _ hi, ofB_bit _ _ hi, h (i / 8) (by omega)]
theorem wordK_key (k : Nat) (bx tw key key' : Nat → BitVec 8) (h : ∀ j, j < 4 * k → key j = key' j) : ∀ m, wordK k bx tw key m = wordK k bx tw key' m
  | 0 => by
    show ((fun j => if j < 4 * k then key j else 0#8), 1#8) = ((fun j => if j < 4 * k then key' j else 0#8), 1#8)
    congr 1
    funext j
    by_cases hj : j < 4 * k
    · rw [if_pos hj, if_pos hj, h j hj]
    · rw [if_neg hj, if_neg hj]
  | m + 1 => by rw [wordK_s, wordK_s, wordK_key k bx tw key key' h m]
theorem schedK_key (k : Nat) (key key' : Nat → BitVec 8) (h : ∀ j, j < 4 * k → key j = key' j) : schedK k key = schedK k key' := by
  unfold schedK wordsF
  rw [wordK_key k bxT twT key key' h]
theorem zs_low : ∀ j, j < 16 → zs j = 0#8 := by decide +kernel
/-- the key of zeros, made ready -/
theorem sched_zero (key : Nat → BitVec 8) (h : ∀ j, j < 16 → key j = 0#8) : schedK 4 key = schedK 4 zs := schedK_key 4 key zs fun j hj => by rw [h j (by omega), zs_low j (by omega)]
def tz : BitVec 128 := 61368827288258104251737371505591052646#128
theorem tz_is : ofB xz0 = tz := by decide +kernel
theorem tz_byte : ∀ j, j < 16 → byB tz j = pz1 j := by decide +kernel
theorem tz_two : ∀ j, j < 16 → byB (dX 135#128 tz) j = pz2 j := by decide +kernel
theorem pz0_zero : ∀ j, j < 16 → byB (jn 0#64 0#64) j = pz0 j := by decide +kernel
theorem tw0_zero : tw0 (schedK 4 zs) 10 0#64 = tz := by
  unfold tw0
  rw [← tz_is]
  exact ofB_congr ((encF_congr (schedK 4 zs) 10 (fun j hj => pz0_zero j hj)).trans enc_z0)
theorem xor_zero8 : ∀ b : BitVec 8, xB 0#8 b = b := by decide +kernel
theorem ch_z1 (f : Nat → BitVec 8) (hf : ∀ j, j < 16 → f j = 0#8) (j : Nat) (hj : j < 16) : chF (encF (schedK 4 zs) bxT twT 10) tz f j = xB (xz1 j) (pz1 j) := by
  unfold chF
  have h1 : Eq16 (addF f (byB tz)) pz1 := fun i hi => by unfold addF; rw [hf i hi, xor_zero8, tz_byte i hi]
  have h2 := (encF_congr (schedK 4 zs) 10 h1).trans enc_z1
  show xB _ _ = _
  rw [h2 j hj, tz_byte j hj]
theorem ch_z2 (f : Nat → BitVec 8) (hf : ∀ j, j < 16 → f j = 0#8) (j : Nat) (hj : j < 16) : chF (encF (schedK 4 zs) bxT twT 10) (dX 135#128 tz) f j = xB (xz2 j) (pz2 j) := by
  unfold chF
  have h1 : Eq16 (addF f (byB (dX 135#128 tz))) pz2 := fun i hi => by unfold addF; rw [hf i hi, xor_zero8, tz_two i hi]
  have h2 := (encF_congr (schedK 4 zs) 10 h1).trans enc_z2
  show xB _ _ = _
  rw [h2 j hj, tz_two j hj]
end Go.Proofs.Ytkoodgfadedeoaa
