import Derived.WalkKit
import Derived.WalkSpells
import Derived.WalkLawsBesides
import Derived.Deep.OwnRows
import Derived.Laws.BitsAllLaws
import Derived.Test.YtjcdnclfakmbpaaGreatDoorCPure
import Derived.Test.YtjcdnclfakmbpaaGreatDoorCFind4
namespace Go.Proofs.YtjcdnclfakmbpaaGreatDoor.C
open Go.RowKit
def tab : List Nat := [0, 498536548, 997073096, 651767980, 1994146192, 1802195444, 1303535960, 1342533948, 3988292384, 4027552580, 3604390888, 3412177804, 2607071920, 2262029012, 2685067896, 3183342108]
def four (r : Nat) : Nat := (r / 16) ^^^ tab.getD (r % 16) 0
def eat (r c : Nat) : Nat := four (four (r ^^^ c))
def reg (xs : List Nat) : Nat := xs.foldl eat 4294967295
def sumOf (xs : List Nat) : Nat := 4294967295 ^^^ reg xs
theorem reg_snoc (xs : List Nat) (x : Nat) : reg (xs ++ [x]) = eat (reg xs) x := by simp [reg]
theorem tab_lt : ∀ i, i < 16 → tab.getD i 0 < 4294967296 := by decide
theorem xor_lt {a b : Nat} (ha : a < 4294967296) (hb : b < 4294967296) : a ^^^ b < 4294967296 := Nat.xor_lt_two_pow (n := 32) ha hb
theorem four_lt {r : Nat} (h : r < 4294967296) : four r < 4294967296 := xor_lt (by omega) (tab_lt _ (by omega))
theorem eat_lt {r c : Nat} (h : r < 4294967296) (hc : c < 256) : eat r c < 4294967296 := four_lt (four_lt (xor_lt h (by omega)))
def Tab (w : World) : Prop := ∀ j, j < 16 → w.cell? ⟨0, j, none⟩ = some (.int .u32 (tab.getD j 0 : Nat))
theorem reg_lt (xs : List Nat) (h : ∀ x ∈ xs, x < 256) : reg xs < 4294967296 := by
  unfold reg
  have : ∀ (l : List Nat) (r : Nat), (∀ x ∈ l, x < 256) → r < 4294967296 → l.foldl eat r < 4294967296 := by
    intro l
    induction l with
    | nil => intro r _ hr; exact hr
    | cons a l ih => intro r hl hr; exact ih _ (fun x hx => hl x (List.mem_cons_of_mem _ hx)) (eat_lt hr (hl a (List.mem_cons_self ..)))
  exact this xs _ h (by omega)
theorem four_walk (w : World) (hT : Tab w) (M : Nat) (hM : M < 4294967296) : ∃ J T : Nat, bits .and .u32 (M : Int) 15 = (J : Int) ∧ J < 16 ∧ w.cell? ⟨0, J, none⟩ = some (.int .u32 (T : Int)) ∧ bits .xor .u32 ((M : Int) / 16) (T : Int) = ((four M : Nat) : Int) := by
  refine ⟨M % 16, tab.getD (M % 16) 0, ?_, by omega, hT _ (by omega), ?_⟩
  · have := u32_and_nat M 15 hM (by omega)
    rw [show ((15 : Nat) : Int) = 15 from rfl] at this
    rw [this]
    have := Nat.and_two_pow_sub_one_eq_mod M 4
    simp at this
    rw [this]
  · have e : (M : Int) / 16 = ((M / 16 : Nat) : Int) := by omega
    rw [e, u32_xor_nat _ _ (by omega) (tab_lt _ (by omega))]
    rfl
theorem Tab.pos {w : World} (h : Tab w) : 0 < w.heap.size := cell_block (h 0 (by omega))
theorem Tab.below {w w' : World} {B : Nat} (h : Tab w) (hb : Below B w w') (hB : 0 < B) : Tab w' := fun j hj => by rw [hb.cell (p := ⟨0, j, none⟩) hB]; exact h j hj
set_option maxRecDepth 100000 in
set_option maxHeartbeats 400000 in
theorem sum_there (w : World) (g o len cap : Nat) (xs : List Nat) (hX : ∀ x ∈ xs, x < 256) (hl : xs.length = len) (hc : ∀ j, j < xs.length → w.cell? ⟨g, o + j, none⟩ = some (.int .u8 (xs.getD j 0))) (hlen : len ≤ 140737488355328) (hT : Tab w) :
    Calls Tryz.prog 44 #[.slice (some ⟨g, o, none⟩) len cap] w fun e w' => e = .returned (.int .u32 (sumOf xs : Nat)) ∧ w' = w := by
  have HX : Hid (∀ x ∈ xs, x < 256) := hX
  have HL : Hid (xs.length = len) := hl
  have HC : Hid (∀ j, j < len → w.cell? ⟨g, o + j, none⟩ = some (.int .u8 (xs.getD j 0))) := fun j hj => hc j (by omega)
  have HT : Hid (Tab w) := hT
  clear hX hl hc hT
  go_enter Tryz.func44, Tryz.ntmps44
  go_wp2
  go_loop [3, 8] (fun n i => ∃ (k N : Nat), k ≤ len ∧ i = .int .i64 k ∧ n = .int .u32 (N : Int) ∧ Hid (N = reg (xs.take k)) ∧ N < 4294967296) (fun _ i => len - (intOf i).toNat)
  case atStart => exact ⟨0, 4294967295, Nat.zero_le _, rfl, rfl, rfl, by omega⟩
  case round =>
    obtain ⟨k, N, hk, rfl, rfl, HN, hN⟩ := hrel
    by_cases hlt : k < len
    · have hcx := HC.out k (by omega)
      have hx : xs.getD k 0 < 256 := getD_small HX.out k
      have HR : Hid (eat N (xs.getD k 0) = reg (xs.take (k + 1))) := by
        show _ = _
        rw [take_snoc xs k (by rw [HL.out]; exact hlt), reg_snoc, HN.out]
      generalize xs.getD k 0 = x at *
      have hA := u32_xor_nat N x hN (by omega)
      have hM : N ^^^ x < 4294967296 := xor_lt hN (by omega)
      unfold eat at HR
      generalize N ^^^ x = M at *
      obtain ⟨J, T, j1, j2, j3, j4⟩ := four_walk w HT.out M hM
      have hM2 : four M < 4294967296 := four_lt hM
      generalize four M = M2 at *
      obtain ⟨J2, T2, k1, k2, k3, k4⟩ := four_walk w HT.out M2 hM2
      have hM3 : four M2 < 4294967296 := four_lt hM2
      generalize four M2 = M3 at *
      go_wp2
      go_round
      case rel => exact ⟨k + 1, M3, by omega, by go_num, rfl, HR, hM3⟩
      case measure => simp [intOf]; omega
    · obtain rfl : k = len := by omega
      have HS : Hid (4294967295 ^^^ N = sumOf xs) := by show _ = _; rw [HN.out, List.take_of_length_le (by rw [HL.out]; omega)]; rfl
      go_wp2
      go_ret
      refine ⟨?_, rfl⟩
      have e : bits .xor .u32 IntKind.u32.max (N : Int) = ((4294967295 ^^^ N : Nat) : Int) := u32_xor_nat 4294967295 N (by omega) hN
      rw [HS.out] at e
      simp only [e]
      rfl
set_option maxRecDepth 100000 in
theorem sum_none (w : World) (sp : Option Addr) (cap : Nat) :
    Calls Tryz.prog 44 #[.slice sp 0 cap] w fun e w' => e = .returned (.int .u32 0) ∧ w' = w := by
  go_enter Tryz.func44, Tryz.ntmps44
  go_wp2
  refine wp_loop_rounds 1 ?_
  rw [rounds_succ]
  go_wp2
  go_ret
  exact ⟨rfl, rfl⟩
theorem sum_any (w : World) (sp : Option Addr) (len cap : Nat) (xs : List Nat) (hl : xs.length = len) (hB : Bytes w sp xs) (hlen : len ≤ 140737488355328) (hT : Tab w) :
    Calls Tryz.prog 44 #[.slice sp len cap] w fun e w' => e = .returned (.int .u32 (sumOf xs : Nat)) ∧ w' = w := by
  rcases hB.lie with h' | ⟨g, o, rfl, hg, hc⟩
  · subst h'; simp at hl; subst hl
    exact sum_none w sp cap
  · exact sum_there w g o len cap xs hB.small hl hc hlen hT
end Go.Proofs.YtjcdnclfakmbpaaGreatDoor.C
namespace Go.Proofs.YtjcdnclfakmbpaaGreatDoor.C
open Go.RowKit
theorem xor4 (a b c d : Nat) : (a ^^^ b) ^^^ (c ^^^ d) = (a ^^^ c) ^^^ (b ^^^ d) := by
  rw [Nat.xor_assoc, Nat.xor_assoc, ← Nat.xor_assoc b c d, Nat.xor_comm b c, Nat.xor_assoc]
end Go.Proofs.YtjcdnclfakmbpaaGreatDoor.C
namespace Go.Proofs.YtjcdnclfakmbpaaGreatDoor.C
def T (r : Nat) : Nat := (r / 2) ^^^ (if r % 2 = 1 then 3988292384 else 0)
def Tn : Nat → Nat → Nat
  | 0, r => r
  | m + 1, r => Tn m (T r)
theorem xor_div2 (a b : Nat) : (a ^^^ b) / 2 = a / 2 ^^^ b / 2 := by simpa using Nat.xor_div_two_pow (a := a) (b := b) (n := 1)
theorem xor_mod2 (a b : Nat) : (a ^^^ b) % 2 = a % 2 ^^^ b % 2 := by simpa using Nat.xor_mod_two_pow (a := a) (b := b) (n := 1)
theorem T_xor (a b : Nat) : T (a ^^^ b) = T a ^^^ T b := by
  unfold T
  rw [xor_div2, xor_mod2, xor4]
  congr 1
  rcases Nat.mod_two_eq_zero_or_one a with h | h <;> rcases Nat.mod_two_eq_zero_or_one b with k | k <;> simp [h, k]
theorem Tn_xor (m : Nat) : ∀ a b, Tn m (a ^^^ b) = Tn m a ^^^ Tn m b := by
  induction m with
  | zero => intro a b; rfl
  | succ m ih => intro a b; simp only [Tn]; rw [T_xor, ih]
theorem Tn_add (m n : Nat) : ∀ r, Tn (m + n) r = Tn n (Tn m r) := by
  induction m with
  | zero => intro r; simp [Tn]
  | succ m ih => intro r; rw [Nat.add_right_comm]; simp only [Tn]; exact ih _
theorem T_two (a : Nat) : T (2 * a) = a := by simp [T]
theorem Tn_pow (k a : Nat) : Tn k (2 ^ k * a) = a := by
  induction k generalizing a with
  | zero => simp [Tn]
  | succ k ih =>
    simp only [Tn]
    rw [Nat.pow_succ, Nat.mul_comm (2 ^ k) 2, Nat.mul_assoc, T_two]
    exact ih a
theorem split_xor (k q i : Nat) (h : i < 2 ^ k) : (2 ^ k * q) ^^^ i = 2 ^ k * q + i := by
  have h0 : 0 < 2 ^ k := Nat.two_pow_pos k
  have h1 : ((2 ^ k * q) ^^^ i) / 2 ^ k = q := by
    rw [Nat.xor_div_two_pow, Nat.mul_div_cancel_left _ h0, Nat.div_eq_of_lt h, Nat.xor_zero]
  have h2 : ((2 ^ k * q) ^^^ i) % 2 ^ k = i := by
    rw [Nat.xor_mod_two_pow, Nat.mul_mod_right, Nat.mod_eq_of_lt h, Nat.zero_xor]
  have := Nat.div_add_mod ((2 ^ k * q) ^^^ i) (2 ^ k)
  rw [h1, h2] at this
  exact this.symm
theorem mul_xor (k a b : Nat) : 2 ^ k * (a ^^^ b) = (2 ^ k * a) ^^^ (2 ^ k * b) := by
  have := Nat.shiftLeft_xor_distrib (i := k) (a := a) (b := b)
  simpa [Nat.shiftLeft_eq, Nat.mul_comm] using this
theorem tab_T : ∀ i, i < 16 → Tn 4 i = tab.getD i 0 := by decide +kernel
theorem four_T (r : Nat) : four r = Tn 4 r := by
  have h : r = (2 ^ 4 * (r / 16)) ^^^ (r % 16) := by
    rw [split_xor 4 _ _ (by omega)]; omega
  have e : Tn 4 r = Tn 4 (2 ^ 4 * (r / 16)) ^^^ Tn 4 (r % 16) := by rw [← Tn_xor, ← h]
  rw [e, Tn_pow, tab_T _ (by omega)]
  rfl
theorem eat_T (r c : Nat) : eat r c = Tn 8 (r ^^^ c) := by
  unfold eat
  rw [four_T, four_T, ← Tn_add]
def val : List Nat → Nat
  | [] => 0
  | c :: e => c + 256 * val e
theorem val_cons (c : Nat) (e : List Nat) (h : c < 256) : val (c :: e) = (2 ^ 8 * val e) ^^^ c := by
  rw [split_xor 8 _ _ (by omega)]; simp only [val]; omega
theorem fold_T : ∀ (e : List Nat) (r : Nat), (∀ x ∈ e, x < 256) → e.foldl eat r = Tn (8 * e.length) (r ^^^ val e)
  | [], r, _ => by simp [val, Tn]
  | c :: e, r, h => by
    rw [List.foldl_cons, fold_T e _ (fun x hx => h x (List.mem_cons_of_mem _ hx)), val_cons c e (h c (List.mem_cons_self ..)), List.length_cons, Nat.mul_add, Nat.mul_one, Nat.add_comm, Tn_add, eat_T]
    congr 1
    rw [Nat.xor_comm (2 ^ 8 * val e) c, ← Nat.xor_assoc, Tn_xor 8 (r ^^^ c), Tn_pow]
end Go.Proofs.YtjcdnclfakmbpaaGreatDoor.C
namespace Go.Proofs.YtjcdnclfakmbpaaGreatDoor.C
def app : List Nat → Nat → Nat
  | [], _ => 0
  | m :: M, v => (if v % 2 = 1 then m else 0) ^^^ app M (v / 2)
def M1 : List Nat := (List.range 32).map fun i => T (2 ^ i)
theorem d15 (g : Nat) (a : g % 3 = 0) (b : g % 5 = 0) : g % 15 = 0 := by omega
end Go.Proofs.YtjcdnclfakmbpaaGreatDoor.C
namespace Go.Proofs.YtjcdnclfakmbpaaGreatDoor.C
def rv : Nat → Nat → Nat
  | 0, _ => 0
  | k + 1, n => 2 ^ k * (n % 2) + rv k (n / 2)
theorem rv_lt : ∀ (k n : Nat), rv k n < 2 ^ k
  | 0, _ => by simp [rv]
  | k + 1, n => by
    have := rv_lt k (n / 2)
    have h := Nat.mod_two_eq_zero_or_one n
    simp only [rv, Nat.pow_succ]
    rcases h with h | h <;> rw [h] <;> omega
theorem rv_xor : ∀ (k a b : Nat), rv k (a ^^^ b) = rv k a ^^^ rv k b
  | 0, _, _ => by simp [rv]
  | k + 1, a, b => by
    simp only [rv]
    rw [xor_mod2, xor_div2, rv_xor k, ← split_xor k _ _ (Nat.xor_lt_two_pow (rv_lt k _) (rv_lt k _)), ← split_xor k _ _ (rv_lt k _), ← split_xor k _ _ (rv_lt k _), mul_xor, xor4]
theorem rv_top : ∀ (k low top : Nat), low < 2 ^ k → top < 2 → rv (k + 1) (low + 2 ^ k * top) = 2 * rv k low + top
  | 0, low, top, h, ht => by
    have : low = 0 := by simpa using h
    subst this
    simp [rv]
    omega
  | k + 1, low, top, h, ht => by
    have e1 : (low + 2 ^ (k + 1) * top) % 2 = low % 2 := by rw [Nat.pow_succ, Nat.mul_comm (2 ^ k) 2, Nat.mul_assoc]; omega
    have e2 : (low + 2 ^ (k + 1) * top) / 2 = low / 2 + 2 ^ k * top := by rw [Nat.pow_succ, Nat.mul_comm (2 ^ k) 2, Nat.mul_assoc]; omega
    have ih := rv_top k (low / 2) top (by rw [Nat.pow_succ] at h; omega) ht
    rw [rv, e1, e2, ih, rv, Nat.pow_succ]
    have : 2 ^ k * 2 * (low % 2) = 2 * (2 ^ k * (low % 2)) := by rw [Nat.mul_comm (2 ^ k) 2, Nat.mul_assoc]
    omega
def shl1 (r bit : Nat) : Nat := if r / 2147483648 = 1 then ((r * 2 + bit) % 4294967296) ^^^ 79764919 else (r * 2 + bit) % 4294967296
theorem shl1_lt (r bit : Nat) : shl1 r bit < 4294967296 := by
  unfold shl1
  split
  · exact xor_lt (by omega) (by omega)
  · omega
theorem rv_poly : rv 32 79764919 = 3988292384 := by decide +kernel
theorem rv_low (low bit : Nat) (hb : bit < 2) : rv 32 (2 * low + bit) = rv 31 low ^^^ (2 ^ 31 * bit) := by
  have e1 : (2 * low + bit) % 2 = bit := by omega
  have e2 : (2 * low + bit) / 2 = low := by omega
  have h31 := rv_lt 31 low
  have e : rv 32 (2 * low + bit) = 2 ^ 31 * ((2 * low + bit) % 2) + rv 31 ((2 * low + bit) / 2) := rfl
  rw [e, e1, e2, Nat.xor_comm, split_xor 31 _ _ h31]
theorem T_rv (low top : Nat) (hl : low < 2 ^ 31) (ht : top < 2) : T (rv 32 (low + 2 ^ 31 * top)) = rv 31 low ^^^ (if top = 1 then 3988292384 else 0) := by
  rw [rv_top 31 low top hl ht]
  generalize rv 31 low = z
  unfold T
  have e1 : (2 * z + top) / 2 = z := by omega
  have e2 : (2 * z + top) % 2 = top := by omega
  rw [e1, e2]
theorem rv_shl1 (r bit : Nat) (hr : r < 4294967296) (hb : bit < 2) : rv 32 (shl1 r bit) = T (rv 32 r) ^^^ (2 ^ 31 * bit) := by
  obtain ⟨low, top, hl, ht, he, h1, h2⟩ : ∃ low top, low < 2 ^ 31 ∧ top < 2 ∧ r = low + 2 ^ 31 * top ∧ r / 2147483648 = top ∧ (r * 2 + bit) % 4294967296 = 2 * low + bit :=
    ⟨r % 2147483648, r / 2147483648, by omega, by omega, by omega, rfl, by omega⟩
  have hT := T_rv low top hl ht
  rw [← he] at hT
  unfold shl1
  rw [h1, h2, hT]
  split
  · rw [rv_xor, rv_poly, rv_low low bit hb, Nat.xor_assoc, Nat.xor_comm (2 ^ 31 * bit), ← Nat.xor_assoc]
  · rw [rv_low low bit hb, Nat.xor_zero]
def far (V M : Nat) : Nat := Tn M (2 ^ 32 * (V % 2 ^ M))
theorem far_zero (V : Nat) : far V 0 = 0 := by simp [far, Nat.mod_one, Tn]
theorem Tn_succ' (m r : Nat) : Tn (m + 1) r = T (Tn m r) := by rw [Tn_add]; rfl
theorem far_step (V M : Nat) : far V (M + 1) = T (far V M) ^^^ (2 ^ 31 * (V / 2 ^ M % 2)) := by
  unfold far
  rw [Nat.mod_pow_succ, Nat.add_comm (V % 2 ^ M), ← split_xor M _ _ (Nat.mod_lt _ (Nat.two_pow_pos M)), mul_xor, Tn_xor, Nat.xor_comm, Tn_succ' M (2 ^ 32 * (V % 2 ^ M))]
  congr 1
  rw [← Nat.mul_assoc, ← Nat.pow_add, show 32 + M = M + 1 + 31 by omega, Nat.pow_add _ (M + 1), Nat.mul_assoc, Tn_pow]
theorem far_end (V M : Nat) (h : V < 2 ^ (32 + M)) : far V (32 + M) = Tn M V := by
  unfold far
  rw [Nat.mod_eq_of_lt h, Tn_add, Tn_pow]
theorem val_lt : ∀ (xs : List Nat), (∀ x ∈ xs, x < 256) → val xs < 2 ^ (8 * xs.length)
  | [], _ => by simp [val]
  | c :: e, h => by
    have h1 := val_lt e (fun x hx => h x (List.mem_cons_of_mem _ hx))
    have h2 := h c (List.mem_cons_self ..)
    rw [List.length_cons, Nat.mul_add, Nat.pow_add]
    simp only [val]
    omega
theorem val_bitat : ∀ (xs : List Nat) (i k : Nat), k < 8 → (∀ x ∈ xs, x < 256) → val xs / 2 ^ (8 * i + k) % 2 = xs.getD i 0 / 2 ^ k % 2
  | [], i, k, _, _ => by simp [val]
  | c :: e, 0, k, hk, h => by
    simp only [List.getD_cons_zero, Nat.mul_zero, Nat.zero_add, val]
    have e1 : 256 * val e = 2 ^ k * (2 * (2 ^ (7 - k) * val e)) := by
      have : (256 : Nat) = 2 ^ k * (2 * 2 ^ (7 - k)) := by
        rw [← Nat.pow_succ', ← Nat.pow_add, show k + (7 - k + 1) = 8 by omega]
      rw [this]
      simp only [Nat.mul_assoc]
    rw [e1, Nat.add_mul_div_left _ _ (Nat.two_pow_pos k)]
    omega
  | c :: e, i + 1, k, hk, h => by
    have ih := val_bitat e i k hk (fun x hx => h x (List.mem_cons_of_mem _ hx))
    have hc := h c (List.mem_cons_self ..)
    simp only [List.getD_cons_succ, val]
    rw [show 8 * (i + 1) + k = 8 + (8 * i + k) by omega, Nat.pow_add, ← Nat.div_div_eq_div_mul, show (c + 256 * val e) / 2 ^ 8 = val e by omega]
    exact ih
def docV (xs : List Nat) : Nat := 4294967295 ^^^ val xs
theorem doc_bit (xs : List Nat) (i k : Nat) (hk : k < 8) (hs : ∀ x ∈ xs, x < 256) : docV xs / 2 ^ (8 * i + k) % 2 = if i < 4 then 1 - xs.getD i 0 / 2 ^ k % 2 else xs.getD i 0 / 2 ^ k % 2 := by
  rw [← val_bitat xs i k hk hs]
  have h1 : (docV xs).testBit (8 * i + k) = ((4294967295 : Nat).testBit (8 * i + k) ^^ (val xs).testBit (8 * i + k)) := Nat.testBit_xor ..
  have h2 : (4294967295 : Nat).testBit (8 * i + k) = decide (8 * i + k < 32) := by
    have := Nat.testBit_two_pow_sub_one 32 (8 * i + k)
    simpa using this
  rw [h2] at h1
  simp only [Nat.testBit_eq_decide_div_mod_eq] at h1
  have p := Nat.mod_two_eq_zero_or_one (docV xs / 2 ^ (8 * i + k))
  have q := Nat.mod_two_eq_zero_or_one (val xs / 2 ^ (8 * i + k))
  by_cases hi : i < 4
  · have h4 : 8 * i + k < 32 := by omega
    rcases p with p | p <;> rcases q with q | q <;> simp [p, q, h4, hi] at h1 ⊢
  · have h4 : ¬ 8 * i + k < 32 := by omega
    rcases p with p | p <;> rcases q with q | q <;> simp [p, q, h4, hi] at h1 ⊢
theorem doc_end (xs : List Nat) (hs : ∀ x ∈ xs, x < 256) : far (docV xs) (32 + 8 * xs.length) = reg xs := by
  rw [far_end _ _ ?_]
  · unfold reg docV
    rw [fold_T _ _ hs]
  · apply Nat.xor_lt_two_pow
    · exact Nat.lt_of_lt_of_le (by omega : 4294967295 < 2 ^ 32) (Nat.pow_le_pow_right (by omega) (by omega))
    · exact Nat.lt_of_lt_of_le (val_lt xs hs) (Nat.pow_le_pow_right (by omega) (by omega))
end Go.Proofs.YtjcdnclfakmbpaaGreatDoor.C
