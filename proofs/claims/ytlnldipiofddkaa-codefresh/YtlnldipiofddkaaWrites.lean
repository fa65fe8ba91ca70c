import Derived.Test.YtlnldipiofddkaaHold
namespace Go.Proofs.Ytlnldipiofddkaa
open Go.RowKit

theorem blk5 {w : World} {b : Nat} {x0 x1 x2 x3 x4 : Value} {t : TypeId} (h : w.heap[b]? = some (.cells #[x0, x1, x2, x3, x4] t (0, 0))) :
    w.cell? ⟨b, 0, none⟩ = some x0 ∧ w.cell? ⟨b, 1, none⟩ = some x1 ∧ w.cell? ⟨b, 2, none⟩ = some x2 ∧ w.cell? ⟨b, 3, none⟩ = some x3 ∧ w.cell? ⟨b, 4, none⟩ = some x4 ∧ (∀ o, w.frozen? ⟨b, o, none⟩ = false) :=
  ⟨by simp [World.cell?, h], by simp [World.cell?, h], by simp [World.cell?, h], by simp [World.cell?, h], by simp [World.cell?, h], fun o => by simp [World.frozen?, h]⟩

theorem made_bytes (w : World) (xs : List Nat) (hs : ∀ x ∈ xs, x < 256) : Bytes (w.alloc (.cells (vals xs).toArray 5)) (some ⟨w.heap.size, 0, none⟩) xs := by
  refine lie_row (heap_alloc_new w (.cells (vals xs).toArray 5 (0, 0))) hs (fun j hj => ?_)
  simp [vals, hj]
theorem owns_bytes {w : World} {B n c : Nat} {a : Option Addr} {xs : List Nat} (h : w.ownsRow B 5 1 (.slice a n c) n (vals xs)) (hs : ∀ x ∈ xs, x < 256) : Bytes w a xs := by
  rcases h.2 with ⟨h1, h2⟩ | ⟨g, cap, cur, h1, h2, hg, h3, _, h5, ht⟩
  · cases h1
    have := h.1
    rw [vals_len] at this
    exact ⟨hs, Or.inl (List.eq_nil_of_length_eq_zero (by omega))⟩
  · cases h1
    exact (own_full hs h).bytes
theorem owns_form {w : World} {n : Nat} {v : Value} {xs : List Value} (h : w.ownsRow 0 5 1 v n xs) : ∃ a c, v = .slice a n c ∧ n ≤ c := by
  rcases h.2 with ⟨h1, h2⟩ | ⟨g, cap, cur, h1, _, _, h2, _⟩
  · exact ⟨none, 0, by rw [h1, h2], by omega⟩
  · exact ⟨_, cap, h1, h2⟩
theorem be_small (n s : Nat) : ∀ x ∈ beOf n s, x < 256 := fun x hx => by
  simp only [beOf, List.mem_map] at hx
  obtain ⟨i, _, rfl⟩ := hx
  exact Nat.mod_lt _ (by omega)
theorem var_small (n : Nat) (hn : n < 18446744073709551616) : ∀ x ∈ varOf n (vs n - 1), x < 256 := by
  have h1 := vs_bounds n hn
  have h2 := vs_fits n hn
  rw [show vs n = vs n - 1 + 1 by omega] at h2
  exact varOf_small n _ h2
theorem be_len (n s : Nat) : (beOf n s).length = s := by simp [beOf]

set_option maxRecDepth 100000 in
set_option maxHeartbeats 4000000 in
theorem writes_u8 (w : World) (b : Nat) (v h : Value) (ws : List Nat) (kind which m : Int) (n : Nat) (bp : Option Addr) (bl bc : Nat) (bs : List Nat) (hw : Wr w b v ws) (hh : w.ownsRow 0 5 1 h ws.length (vals ws)) (hf : Far v h) (_hn64 : n < 18446744073709551616) (hbl : bs.length = bl) (hblc : bl ≤ bc) (hb : BytesS (fun k => ¬ Turns b v h k) w bp bs) (hlen : ws.length + bl + 100 ≤ 140737488351232)
    (k1 : (kind == 1) = true) :
    Calls Try.prog 12 #[.pointer (some ⟨b, 0, none⟩), h, .agg #[.int .i64 kind, .int .i64 which, .int .i64 m, .int .u64 (n : Int), .slice bp bl bc]] w fun e w' => ∃ v' h' new, e = .returned (.tuple #[h', .bool true]) ∧ new.length ≤ bl + 10 ∧ Did w b v h w' v' h' (ws ++ new) (ws ++ new) := by
  obtain ⟨hp, hcap, rfl, hle⟩ := owns_form hh
  have HSz : Hid ((w.alloc (.cells #[.int .i64 kind, .int .i64 which, .int .i64 m, .int .u64 (n : Int), .slice bp bl bc] 33)).heap.size = w.heap.size + 1) := by show _ = _; simp
  have HL := hide hbl
  have HW := hide hw
  have HH := hide hh
  have HF := hide hf
  have HB := hide hb
  have HSm := hide hw.small
  clear hw hh hf hb hbl
  have HA : Hid (Below w.heap.size w (w.alloc (.cells #[.int .i64 kind, .int .i64 which, .int .i64 m, .int .u64 (n : Int), .slice bp bl bc] 33))) := (Below.refl _ _).alloc (Nat.le_refl _) _
  have hmod : (n : Int) % 256 = ((n % 256 : Nat) : Int) := by omega
  have hN : n % 256 < 256 := by omega
  generalize n % 256 = N at *
  go_enter Try.func12, Try.ntmps12
  go_wp2_with fail
  refine (lend_any _ bp bl bc bs HL.out (HB.out.bytes.below HA.out) (by omega)).mono ?_
  rintro e w1 ⟨g, c, rfl, ho1, hb1⟩
  rw [HSz.out] at hb1 ho1
  have HM1 : Hid (Mid w b v (.slice hp ws.length hcap) ⟨kind, which, m, n, bp, bl, bc, bs⟩ g c w1 v (.slice hp ws.length hcap) ws ws) := Mid.start HW.out HH.out HF.out hb1 ho1
  clear ho1 hb1 HA HW HH HF HSz
  obtain ⟨c0, c1, c2, c3, c4, cf⟩ := blk5 HM1.out.box
  go_wp2_with fail
  refine (wu8_any _ b v ws N HM1.out.did.wr hN (by omega)).mono ?_
  rintro e w2 ⟨rfl, hl2⟩
  obtain ⟨v2, hm2⟩ := HM1.out.laid hl2
  have HM2 := hide hm2
  clear hl2 hm2 HM1 c0 c1 c2 c3 c4 cf
  obtain ⟨c0, c1, c2, c3, c4, cf⟩ := blk5 HM2.out.box
  go_wp2_with fail
  refine (ref_u8 _ N hN).mono ?_
  rintro e w3 ⟨rfl, rfl⟩
  have HM3 := hide (HM2.out.below ((Below.refl _ _).alloc (Nat.le_refl _) (.cells (vals (beOf N 1)).toArray 5)))
  have HBy := hide (made_bytes w2 (beOf N 1) (be_small _ _))
  generalize w2.alloc (.cells (vals (beOf N 1)).toArray 5) = w3 at *
  clear HM2 c0 c1 c2 c3 c4 cf
  go_wp2_with (at_builtin; refine wpList_append_held rfl (.tmp 23) (.tmp 27) rfl (.slice hp ws.length hcap) ws.length (vals ws) rfl HM3.out.did.hd _ 1 1 (beOf N 1) rfl (be_len _ _) HBy.out (by omega) ?_; intro h4 w4 hown4 hgrow4 hat4; have HM4 := hide (HM3.out.grown (be_len _ _) hown4 hgrow4 hat4); clear hown4 hgrow4 hat4 HM3 HBy; obtain ⟨c0, c1, c2, c3, c4, cf⟩ := blk5 HM4.out.box)
  have HY4 := hide ((HB.out.kept (fun k hS hk => HM4.out.did.kept.block k hk hS) HM4.out.did.kept.size).bytes)
  go_wp2_with fail
  refine (intact_any _ _ g c bl bp bc bs HL.out HM4.out.own HY4.out (by omega)).mono ?_
  rintro e wz ⟨rfl, q, rfl⟩
  have HM8 := hide (HM4.out.below (below_draws2 (Below.refl _ _) q))
  generalize w4.drewN q = w8 at *
  clear HM4 HY4 c0 c1 c2 c3 c4 cf
  go_wp2
  go_loopw [10] (fun i wr => ∃ (k : Nat) (zs : List Nat), k ≤ bl ∧ i = .int .i64 k ∧ Hid (zs.length = bl + 70) ∧ Hid (Own (w.heap.size + 1) wr g c zs) ∧ Hid (But g w8 wr)) (fun i _ => bl - (intOf i).toNat)
  case atStart => exact ⟨0, bs ++ marks, Nat.zero_le _, rfl, by show _ = _; rw [List.length_append, marks_len, HL.out], HM8.out.own, But.refl _ _⟩
  case round =>
    obtain ⟨k, zs, hk, rfl, HZ, HO, HBu⟩ := hrel
    by_cases hlt : k < bl
    · obtain ⟨q0, qf⟩ := HO.out.cell k (by rw [HZ.out]; omega)
      have HO2 := hide (HO.out.set k 238 (by omega))
      generalize zs.getD k 0 = x0 at *
      have l1 : (k : Int) < (bl : Int) := by omega
      have l2 : (0 : Int) ≤ (k : Int) := by omega
      go_wp2
      go_roundw
      case rel => exact ⟨k + 1, zs.set k 238, by omega, by go_num, by show _ = _; rw [List.length_set]; exact HZ.out, HO2, HBu.out.setCell (Or.inl rfl) _⟩
      case measure => simp [intOf]; omega
    · obtain rfl : k = bl := by omega
      go_wp2
      exact bodyPost_ret (v := .tuple #[h4, .bool true]) (by simp [results, Try.results12, go_sem]) rfl ⟨v2, h4, beOf N 1, rfl, by rw [be_len]; omega, HM8.out.filled HBu.out⟩

set_option maxRecDepth 100000 in
set_option maxHeartbeats 4000000 in
theorem writes_u32 (w : World) (b : Nat) (v h : Value) (ws : List Nat) (kind which m : Int) (n : Nat) (bp : Option Addr) (bl bc : Nat) (bs : List Nat) (hw : Wr w b v ws) (hh : w.ownsRow 0 5 1 h ws.length (vals ws)) (hf : Far v h) (_hn64 : n < 18446744073709551616) (hbl : bs.length = bl) (hblc : bl ≤ bc) (hb : BytesS (fun k => ¬ Turns b v h k) w bp bs) (hlen : ws.length + bl + 100 ≤ 140737488351232)
    (k1 : (kind == 1) = false) (k2 : (kind == 2) = true) :
    Calls Try.prog 12 #[.pointer (some ⟨b, 0, none⟩), h, .agg #[.int .i64 kind, .int .i64 which, .int .i64 m, .int .u64 (n : Int), .slice bp bl bc]] w fun e w' => ∃ v' h' new, e = .returned (.tuple #[h', .bool true]) ∧ new.length ≤ bl + 10 ∧ Did w b v h w' v' h' (ws ++ new) (ws ++ new) := by
  obtain ⟨hp, hcap, rfl, hle⟩ := owns_form hh
  have HSz : Hid ((w.alloc (.cells #[.int .i64 kind, .int .i64 which, .int .i64 m, .int .u64 (n : Int), .slice bp bl bc] 33)).heap.size = w.heap.size + 1) := by show _ = _; simp
  have HL := hide hbl
  have HW := hide hw
  have HH := hide hh
  have HF := hide hf
  have HB := hide hb
  have HSm := hide hw.small
  clear hw hh hf hb hbl
  have HA : Hid (Below w.heap.size w (w.alloc (.cells #[.int .i64 kind, .int .i64 which, .int .i64 m, .int .u64 (n : Int), .slice bp bl bc] 33))) := (Below.refl _ _).alloc (Nat.le_refl _) _
  have hmod : (n : Int) % 4294967296 = ((n % 4294967296 : Nat) : Int) := by omega
  have hN : n % 4294967296 < 4294967296 := by omega
  generalize n % 4294967296 = N at *
  go_enter Try.func12, Try.ntmps12
  go_wp2_with fail
  refine (lend_any _ bp bl bc bs HL.out (HB.out.bytes.below HA.out) (by omega)).mono ?_
  rintro e w1 ⟨g, c, rfl, ho1, hb1⟩
  rw [HSz.out] at hb1 ho1
  have HM1 : Hid (Mid w b v (.slice hp ws.length hcap) ⟨kind, which, m, n, bp, bl, bc, bs⟩ g c w1 v (.slice hp ws.length hcap) ws ws) := Mid.start HW.out HH.out HF.out hb1 ho1
  clear ho1 hb1 HA HW HH HF HSz
  obtain ⟨c0, c1, c2, c3, c4, cf⟩ := blk5 HM1.out.box
  go_wp2_with fail
  refine (wu32_any _ b v ws N HM1.out.did.wr hN (by omega)).mono ?_
  rintro e w2 ⟨rfl, hl2⟩
  obtain ⟨v2, hm2⟩ := HM1.out.laid hl2
  have HM2 := hide hm2
  clear hl2 hm2 HM1 c0 c1 c2 c3 c4 cf
  obtain ⟨c0, c1, c2, c3, c4, cf⟩ := blk5 HM2.out.box
  go_wp2_with fail
  refine (ref_u32 _ N hN).mono ?_
  rintro e w3 ⟨rfl, rfl⟩
  have HM3 := hide (HM2.out.below ((Below.refl _ _).alloc (Nat.le_refl _) (.cells (vals (beOf N 4)).toArray 5)))
  have HBy := hide (made_bytes w2 (beOf N 4) (be_small _ _))
  generalize w2.alloc (.cells (vals (beOf N 4)).toArray 5) = w3 at *
  clear HM2 c0 c1 c2 c3 c4 cf
  go_wp2_with (at_builtin; refine wpList_append_held rfl (.tmp 36) (.tmp 40) rfl (.slice hp ws.length hcap) ws.length (vals ws) rfl HM3.out.did.hd _ 4 4 (beOf N 4) rfl (be_len _ _) HBy.out (by omega) ?_; intro h4 w4 hown4 hgrow4 hat4; have HM4 := hide (HM3.out.grown (be_len _ _) hown4 hgrow4 hat4); clear hown4 hgrow4 hat4 HM3 HBy; obtain ⟨c0, c1, c2, c3, c4, cf⟩ := blk5 HM4.out.box)
  have HY4 := hide ((HB.out.kept (fun k hS hk => HM4.out.did.kept.block k hk hS) HM4.out.did.kept.size).bytes)
  go_wp2_with fail
  refine (intact_any _ _ g c bl bp bc bs HL.out HM4.out.own HY4.out (by omega)).mono ?_
  rintro e wz ⟨rfl, q, rfl⟩
  have HM8 := hide (HM4.out.below (below_draws2 (Below.refl _ _) q))
  generalize w4.drewN q = w8 at *
  clear HM4 HY4 c0 c1 c2 c3 c4 cf
  go_wp2
  go_loopw [10] (fun i wr => ∃ (k : Nat) (zs : List Nat), k ≤ bl ∧ i = .int .i64 k ∧ Hid (zs.length = bl + 70) ∧ Hid (Own (w.heap.size + 1) wr g c zs) ∧ Hid (But g w8 wr)) (fun i _ => bl - (intOf i).toNat)
  case atStart => exact ⟨0, bs ++ marks, Nat.zero_le _, rfl, by show _ = _; rw [List.length_append, marks_len, HL.out], HM8.out.own, But.refl _ _⟩
  case round =>
    obtain ⟨k, zs, hk, rfl, HZ, HO, HBu⟩ := hrel
    by_cases hlt : k < bl
    · obtain ⟨q0, qf⟩ := HO.out.cell k (by rw [HZ.out]; omega)
      have HO2 := hide (HO.out.set k 238 (by omega))
      generalize zs.getD k 0 = x0 at *
      have l1 : (k : Int) < (bl : Int) := by omega
      have l2 : (0 : Int) ≤ (k : Int) := by omega
      go_wp2
      go_roundw
      case rel => exact ⟨k + 1, zs.set k 238, by omega, by go_num, by show _ = _; rw [List.length_set]; exact HZ.out, HO2, HBu.out.setCell (Or.inl rfl) _⟩
      case measure => simp [intOf]; omega
    · obtain rfl : k = bl := by omega
      go_wp2
      exact bodyPost_ret (v := .tuple #[h4, .bool true]) (by simp [results, Try.results12, go_sem]) rfl ⟨v2, h4, beOf N 4, rfl, by rw [be_len]; omega, HM8.out.filled HBu.out⟩

set_option maxRecDepth 100000 in
set_option maxHeartbeats 4000000 in
theorem writes_u64 (w : World) (b : Nat) (v h : Value) (ws : List Nat) (kind which m : Int) (n : Nat) (bp : Option Addr) (bl bc : Nat) (bs : List Nat) (hw : Wr w b v ws) (hh : w.ownsRow 0 5 1 h ws.length (vals ws)) (hf : Far v h) (hn64 : n < 18446744073709551616) (hbl : bs.length = bl) (hblc : bl ≤ bc) (hb : BytesS (fun k => ¬ Turns b v h k) w bp bs) (hlen : ws.length + bl + 100 ≤ 140737488351232)
    (k1 : (kind == 1) = false) (k2 : (kind == 2) = false) (k3 : (kind == 3) = true) :
    Calls Try.prog 12 #[.pointer (some ⟨b, 0, none⟩), h, .agg #[.int .i64 kind, .int .i64 which, .int .i64 m, .int .u64 (n : Int), .slice bp bl bc]] w fun e w' => ∃ v' h' new, e = .returned (.tuple #[h', .bool true]) ∧ new.length ≤ bl + 10 ∧ Did w b v h w' v' h' (ws ++ new) (ws ++ new) := by
  obtain ⟨hp, hcap, rfl, hle⟩ := owns_form hh
  have HSz : Hid ((w.alloc (.cells #[.int .i64 kind, .int .i64 which, .int .i64 m, .int .u64 (n : Int), .slice bp bl bc] 33)).heap.size = w.heap.size + 1) := by show _ = _; simp
  have HL := hide hbl
  have HW := hide hw
  have HH := hide hh
  have HF := hide hf
  have HB := hide hb
  have HSm := hide hw.small
  clear hw hh hf hb hbl
  have HA : Hid (Below w.heap.size w (w.alloc (.cells #[.int .i64 kind, .int .i64 which, .int .i64 m, .int .u64 (n : Int), .slice bp bl bc] 33))) := (Below.refl _ _).alloc (Nat.le_refl _) _
  go_enter Try.func12, Try.ntmps12
  go_wp2_with fail
  refine (lend_any _ bp bl bc bs HL.out (HB.out.bytes.below HA.out) (by omega)).mono ?_
  rintro e w1 ⟨g, c, rfl, ho1, hb1⟩
  rw [HSz.out] at hb1 ho1
  have HM1 : Hid (Mid w b v (.slice hp ws.length hcap) ⟨kind, which, m, n, bp, bl, bc, bs⟩ g c w1 v (.slice hp ws.length hcap) ws ws) := Mid.start HW.out HH.out HF.out hb1 ho1
  clear ho1 hb1 HA HW HH HF HSz
  obtain ⟨c0, c1, c2, c3, c4, cf⟩ := blk5 HM1.out.box
  go_wp2_with fail
  refine (wu64_any _ b v ws n HM1.out.did.wr hn64 (by omega)).mono ?_
  rintro e w2 ⟨rfl, hl2⟩
  obtain ⟨v2, hm2⟩ := HM1.out.laid hl2
  have HM2 := hide hm2
  clear hl2 hm2 HM1 c0 c1 c2 c3 c4 cf
  obtain ⟨c0, c1, c2, c3, c4, cf⟩ := blk5 HM2.out.box
  go_wp2_with fail
  refine (ref_u64 _ n hn64).mono ?_
  rintro e w3 ⟨rfl, rfl⟩
  have HM3 := hide (HM2.out.below ((Below.refl _ _).alloc (Nat.le_refl _) (.cells (vals (beOf n 8)).toArray 5)))
  have HBy := hide (made_bytes w2 (beOf n 8) (be_small _ _))
  generalize w2.alloc (.cells (vals (beOf n 8)).toArray 5) = w3 at *
  clear HM2 c0 c1 c2 c3 c4 cf
  go_wp2_with (at_builtin; refine wpList_append_held rfl (.tmp 48) (.tmp 51) rfl (.slice hp ws.length hcap) ws.length (vals ws) rfl HM3.out.did.hd _ 8 8 (beOf n 8) rfl (be_len _ _) HBy.out (by omega) ?_; intro h4 w4 hown4 hgrow4 hat4; have HM4 := hide (HM3.out.grown (be_len _ _) hown4 hgrow4 hat4); clear hown4 hgrow4 hat4 HM3 HBy; obtain ⟨c0, c1, c2, c3, c4, cf⟩ := blk5 HM4.out.box)
  have HY4 := hide ((HB.out.kept (fun k hS hk => HM4.out.did.kept.block k hk hS) HM4.out.did.kept.size).bytes)
  go_wp2_with fail
  refine (intact_any _ _ g c bl bp bc bs HL.out HM4.out.own HY4.out (by omega)).mono ?_
  rintro e wz ⟨rfl, q, rfl⟩
  have HM8 := hide (HM4.out.below (below_draws2 (Below.refl _ _) q))
  generalize w4.drewN q = w8 at *
  clear HM4 HY4 c0 c1 c2 c3 c4 cf
  go_wp2
  go_loopw [10] (fun i wr => ∃ (k : Nat) (zs : List Nat), k ≤ bl ∧ i = .int .i64 k ∧ Hid (zs.length = bl + 70) ∧ Hid (Own (w.heap.size + 1) wr g c zs) ∧ Hid (But g w8 wr)) (fun i _ => bl - (intOf i).toNat)
  case atStart => exact ⟨0, bs ++ marks, Nat.zero_le _, rfl, by show _ = _; rw [List.length_append, marks_len, HL.out], HM8.out.own, But.refl _ _⟩
  case round =>
    obtain ⟨k, zs, hk, rfl, HZ, HO, HBu⟩ := hrel
    by_cases hlt : k < bl
    · obtain ⟨q0, qf⟩ := HO.out.cell k (by rw [HZ.out]; omega)
      have HO2 := hide (HO.out.set k 238 (by omega))
      generalize zs.getD k 0 = x0 at *
      have l1 : (k : Int) < (bl : Int) := by omega
      have l2 : (0 : Int) ≤ (k : Int) := by omega
      go_wp2
      go_roundw
      case rel => exact ⟨k + 1, zs.set k 238, by omega, by go_num, by show _ = _; rw [List.length_set]; exact HZ.out, HO2, HBu.out.setCell (Or.inl rfl) _⟩
      case measure => simp [intOf]; omega
    · obtain rfl : k = bl := by omega
      go_wp2
      exact bodyPost_ret (v := .tuple #[h4, .bool true]) (by simp [results, Try.results12, go_sem]) rfl ⟨v2, h4, beOf n 8, rfl, by rw [be_len]; omega, HM8.out.filled HBu.out⟩

set_option maxRecDepth 100000 in
set_option maxHeartbeats 4000000 in
theorem writes_var (w : World) (b : Nat) (v h : Value) (ws : List Nat) (kind which m : Int) (n : Nat) (bp : Option Addr) (bl bc : Nat) (bs : List Nat) (hw : Wr w b v ws) (hh : w.ownsRow 0 5 1 h ws.length (vals ws)) (hf : Far v h) (hn64 : n < 18446744073709551616) (hbl : bs.length = bl) (hblc : bl ≤ bc) (hb : BytesS (fun k => ¬ Turns b v h k) w bp bs) (hlen : ws.length + bl + 100 ≤ 140737488351232)
    (k1 : (kind == 1) = false) (k2 : (kind == 2) = false) (k3 : (kind == 3) = false) (k4 : (kind == 4) = true) :
    Calls Try.prog 12 #[.pointer (some ⟨b, 0, none⟩), h, .agg #[.int .i64 kind, .int .i64 which, .int .i64 m, .int .u64 (n : Int), .slice bp bl bc]] w fun e w' => ∃ v' h' new, e = .returned (.tuple #[h', .bool true]) ∧ new.length ≤ bl + 10 ∧ Did w b v h w' v' h' (ws ++ new) (ws ++ new) := by
  obtain ⟨hp, hcap, rfl, hle⟩ := owns_form hh
  have HSz : Hid ((w.alloc (.cells #[.int .i64 kind, .int .i64 which, .int .i64 m, .int .u64 (n : Int), .slice bp bl bc] 33)).heap.size = w.heap.size + 1) := by show _ = _; simp
  have HL := hide hbl
  have HW := hide hw
  have HH := hide hh
  have HF := hide hf
  have HB := hide hb
  have HSm := hide hw.small
  clear hw hh hf hb hbl
  have HA : Hid (Below w.heap.size w (w.alloc (.cells #[.int .i64 kind, .int .i64 which, .int .i64 m, .int .u64 (n : Int), .slice bp bl bc] 33))) := (Below.refl _ _).alloc (Nat.le_refl _) _
  go_enter Try.func12, Try.ntmps12
  go_wp2_with fail
  refine (lend_any _ bp bl bc bs HL.out (HB.out.bytes.below HA.out) (by omega)).mono ?_
  rintro e w1 ⟨g, c, rfl, ho1, hb1⟩
  rw [HSz.out] at hb1 ho1
  have HM1 : Hid (Mid w b v (.slice hp ws.length hcap) ⟨kind, which, m, n, bp, bl, bc, bs⟩ g c w1 v (.slice hp ws.length hcap) ws ws) := Mid.start HW.out HH.out HF.out hb1 ho1
  clear ho1 hb1 HA HW HH HF HSz
  obtain ⟨c0, c1, c2, c3, c4, cf⟩ := blk5 HM1.out.box
  go_wp2_with fail
  refine (var_lays _ b v ws n HM1.out.did.wr hn64 (by omega)).mono ?_
  rintro e w2 ⟨rfl, hl2⟩
  obtain ⟨v2, hm2⟩ := HM1.out.laid hl2
  have HM2 := hide hm2
  clear hl2 hm2 HM1 c0 c1 c2 c3 c4 cf
  obtain ⟨c0, c1, c2, c3, c4, cf⟩ := blk5 HM2.out.box
  have hvs := vs_bounds n hn64
  have HVs : Hid (∀ x ∈ varOf n (vs n - 1), x < 256) := var_small n hn64
  have HVl : Hid ((varOf n (vs n - 1)).length = vs n) := by show _ = _; rw [varOf_length]; omega
  go_wp2_with fail
  refine (ref_var_any n hn64 _).mono ?_
  rintro e w3 ⟨g3, k3, rfl, hown3, hb3⟩
  have HM3 := hide (HM2.out.below hb3)
  have HBy := hide (owns_bytes hown3 HVs.out)
  clear hown3 hb3 HM2 c0 c1 c2 c3 c4 cf
  generalize varOf n (vs n - 1) = new at *
  generalize vs n = s at *
  go_wp2_with (at_builtin; refine wpList_append_held rfl (.tmp 59) (.tmp 62) rfl (.slice hp ws.length hcap) ws.length (vals ws) rfl HM3.out.did.hd _ s k3 new rfl HVl.out HBy.out (by omega) ?_; intro h4 w4 hown4 hgrow4 hat4; have HM4 := hide (HM3.out.grown HVl.out hown4 hgrow4 hat4); clear hown4 hgrow4 hat4 HM3 HBy; obtain ⟨c0, c1, c2, c3, c4, cf⟩ := blk5 HM4.out.box)
  have HY4 := hide ((HB.out.kept (fun k hS hk => HM4.out.did.kept.block k hk hS) HM4.out.did.kept.size).bytes)
  go_wp2_with fail
  refine (intact_any _ _ g c bl bp bc bs HL.out HM4.out.own HY4.out (by omega)).mono ?_
  rintro e wz ⟨rfl, q, rfl⟩
  have HM8 := hide (HM4.out.below (below_draws2 (Below.refl _ _) q))
  generalize w4.drewN q = w8 at *
  clear HM4 HY4 c0 c1 c2 c3 c4 cf
  go_wp2
  go_loopw [10] (fun i wr => ∃ (k : Nat) (zs : List Nat), k ≤ bl ∧ i = .int .i64 k ∧ Hid (zs.length = bl + 70) ∧ Hid (Own (w.heap.size + 1) wr g c zs) ∧ Hid (But g w8 wr)) (fun i _ => bl - (intOf i).toNat)
  case atStart => exact ⟨0, bs ++ marks, Nat.zero_le _, rfl, by show _ = _; rw [List.length_append, marks_len, HL.out], HM8.out.own, But.refl _ _⟩
  case round =>
    obtain ⟨k, zs, hk, rfl, HZ, HO, HBu⟩ := hrel
    by_cases hlt : k < bl
    · obtain ⟨q0, qf⟩ := HO.out.cell k (by rw [HZ.out]; omega)
      have HO2 := hide (HO.out.set k 238 (by omega))
      generalize zs.getD k 0 = x0 at *
      have l1 : (k : Int) < (bl : Int) := by omega
      have l2 : (0 : Int) ≤ (k : Int) := by omega
      go_wp2
      go_roundw
      case rel => exact ⟨k + 1, zs.set k 238, by omega, by go_num, by show _ = _; rw [List.length_set]; exact HZ.out, HO2, HBu.out.setCell (Or.inl rfl) _⟩
      case measure => simp [intOf]; omega
    · obtain rfl : k = bl := by omega
      go_wp2
      exact bodyPost_ret (v := .tuple #[h4, .bool true]) (by simp [results, Try.results12, go_sem]) rfl ⟨v2, h4, new, rfl, by rw [HVl.out]; omega, HM8.out.filled HBu.out⟩

set_option maxRecDepth 100000 in
set_option maxHeartbeats 4000000 in
theorem writes_bytes (w : World) (b : Nat) (v h : Value) (ws : List Nat) (kind which m : Int) (n : Nat) (bp : Option Addr) (bl bc : Nat) (bs : List Nat) (hw : Wr w b v ws) (hh : w.ownsRow 0 5 1 h ws.length (vals ws)) (hf : Far v h) (_hn64 : n < 18446744073709551616) (hbl : bs.length = bl) (hblc : bl ≤ bc) (hb : BytesS (fun k => ¬ Turns b v h k) w bp bs) (hlen : ws.length + bl + 100 ≤ 140737488351232)
    (k1 : (kind == 1) = false) (k2 : (kind == 2) = false) (k3 : (kind == 3) = false) (k4 : (kind == 4) = false) (k5 : (kind == 5) = true) :
    Calls Try.prog 12 #[.pointer (some ⟨b, 0, none⟩), h, .agg #[.int .i64 kind, .int .i64 which, .int .i64 m, .int .u64 (n : Int), .slice bp bl bc]] w fun e w' => ∃ v' h' new, e = .returned (.tuple #[h', .bool true]) ∧ new.length ≤ bl + 10 ∧ Did w b v h w' v' h' (ws ++ new) (ws ++ new) := by
  obtain ⟨hp, hcap, rfl, hle⟩ := owns_form hh
  have HSz : Hid ((w.alloc (.cells #[.int .i64 kind, .int .i64 which, .int .i64 m, .int .u64 (n : Int), .slice bp bl bc] 33)).heap.size = w.heap.size + 1) := by show _ = _; simp
  have HL := hide hbl
  have HW := hide hw
  have HH := hide hh
  have HF := hide hf
  have HB := hide hb
  have HSm := hide hw.small
  clear hw hh hf hb hbl
  have HA : Hid (Below w.heap.size w (w.alloc (.cells #[.int .i64 kind, .int .i64 which, .int .i64 m, .int .u64 (n : Int), .slice bp bl bc] 33))) := (Below.refl _ _).alloc (Nat.le_refl _) _
  go_enter Try.func12, Try.ntmps12
  go_wp2_with fail
  refine (lend_any _ bp bl bc bs HL.out (HB.out.bytes.below HA.out) (by omega)).mono ?_
  rintro e w1 ⟨g, c, rfl, ho1, hb1⟩
  rw [HSz.out] at hb1 ho1
  have HM1 : Hid (Mid w b v (.slice hp ws.length hcap) ⟨kind, which, m, n, bp, bl, bc, bs⟩ g c w1 v (.slice hp ws.length hcap) ws ws) := Mid.start HW.out HH.out HF.out hb1 ho1
  clear ho1 hb1 HA HW HH HF HSz
  obtain ⟨c0, c1, c2, c3, c4, cf⟩ := blk5 HM1.out.box
  have HSep : Hid (∀ g' o', (some ⟨g, 0, none⟩ : Option Addr) = some ⟨g', o', none⟩ → 0 < bl → g' ≠ b ∧ some g' ≠ v.ownBlock) := fun g' o' e _ => by
    cases e
    exact ⟨HM1.out.own.ne HM1.out.did.wr.blk (by decide), fun e => HM1.out.vg e.symm⟩
  go_wp2_with fail
  refine (wbytes_any _ b v ws _ bl c bs HM1.out.did.wr HL.out HM1.out.own.front (by omega) HSep.out).mono ?_
  rintro e w2 ⟨rfl, hl2⟩
  obtain ⟨v2, hm2⟩ := HM1.out.laid hl2
  have HM2 := hide hm2
  clear hl2 hm2 HM1 c0 c1 c2 c3 c4 cf HSep
  obtain ⟨c0, c1, c2, c3, c4, cf⟩ := blk5 HM2.out.box
  have HY2 := hide ((HB.out.kept (fun k hS hk => HM2.out.did.kept.block k hk hS) HM2.out.did.kept.size).bytes)
  have hvs := vs_bounds bl (by omega)
  have HVs : Hid (∀ x ∈ varOf bl (vs bl - 1) ++ bs, x < 256) := fun x hx => by
    rcases List.mem_append.1 hx with h | h
    · exact var_small bl (by omega) x h
    · exact HB.out.small x h
  have HVl : Hid ((varOf bl (vs bl - 1) ++ bs).length = vs bl + bl) := by show _ = _; rw [List.length_append, varOf_length, HL.out]; omega
  go_wp2_with fail
  refine (ref_text _ bp bl bc bs HL.out HY2.out (by omega)).mono ?_
  rintro e w3 ⟨g3, k3, rfl, hown3, hb3⟩
  have HM3 := hide (HM2.out.below hb3)
  have HBy := hide (owns_bytes hown3 HVs.out)
  clear hown3 hb3 HM2 c0 c1 c2 c3 c4 cf HY2
  generalize varOf bl (vs bl - 1) ++ bs = new at *
  generalize vs bl = s at *
  go_wp2_with (at_builtin; refine wpList_append_held rfl (.tmp 69) (.tmp 72) rfl (.slice hp ws.length hcap) ws.length (vals ws) rfl HM3.out.did.hd _ (s + bl) k3 new rfl HVl.out HBy.out (by omega) ?_; intro h4 w4 hown4 hgrow4 hat4; have HM4 := hide (HM3.out.grown HVl.out hown4 hgrow4 hat4); clear hown4 hgrow4 hat4 HM3 HBy; obtain ⟨c0, c1, c2, c3, c4, cf⟩ := blk5 HM4.out.box)
  have HY4 := hide ((HB.out.kept (fun k hS hk => HM4.out.did.kept.block k hk hS) HM4.out.did.kept.size).bytes)
  go_wp2_with fail
  refine (intact_any _ _ g c bl bp bc bs HL.out HM4.out.own HY4.out (by omega)).mono ?_
  rintro e wz ⟨rfl, q, rfl⟩
  have HM8 := hide (HM4.out.below (below_draws2 (Below.refl _ _) q))
  generalize w4.drewN q = w8 at *
  clear HM4 HY4 c0 c1 c2 c3 c4 cf
  go_wp2
  go_loopw [10] (fun i wr => ∃ (k : Nat) (zs : List Nat), k ≤ bl ∧ i = .int .i64 k ∧ Hid (zs.length = bl + 70) ∧ Hid (Own (w.heap.size + 1) wr g c zs) ∧ Hid (But g w8 wr)) (fun i _ => bl - (intOf i).toNat)
  case atStart => exact ⟨0, bs ++ marks, Nat.zero_le _, rfl, by show _ = _; rw [List.length_append, marks_len, HL.out], HM8.out.own, But.refl _ _⟩
  case round =>
    obtain ⟨k, zs, hk, rfl, HZ, HO, HBu⟩ := hrel
    by_cases hlt : k < bl
    · obtain ⟨q0, qf⟩ := HO.out.cell k (by rw [HZ.out]; omega)
      have HO2 := hide (HO.out.set k 238 (by omega))
      generalize zs.getD k 0 = x0 at *
      have l1 : (k : Int) < (bl : Int) := by omega
      have l2 : (0 : Int) ≤ (k : Int) := by omega
      go_wp2
      go_roundw
      case rel => exact ⟨k + 1, zs.set k 238, by omega, by go_num, by show _ = _; rw [List.length_set]; exact HZ.out, HO2, HBu.out.setCell (Or.inl rfl) _⟩
      case measure => simp [intOf]; omega
    · obtain rfl : k = bl := by omega
      go_wp2
      exact bodyPost_ret (v := .tuple #[h4, .bool true]) (by simp [results, Try.results12, go_sem]) rfl ⟨v2, h4, new, rfl, by rw [HVl.out]; omega, HM8.out.filled HBu.out⟩

set_option maxRecDepth 100000 in
set_option maxHeartbeats 4000000 in
theorem writes_raw (w : World) (b : Nat) (v h : Value) (ws : List Nat) (kind which m : Int) (n : Nat) (bp : Option Addr) (bl bc : Nat) (bs : List Nat) (hw : Wr w b v ws) (hh : w.ownsRow 0 5 1 h ws.length (vals ws)) (hf : Far v h) (_hn64 : n < 18446744073709551616) (hbl : bs.length = bl) (hblc : bl ≤ bc) (hb : BytesS (fun k => ¬ Turns b v h k) w bp bs) (hlen : ws.length + bl + 100 ≤ 140737488351232)
    (k1 : (kind == 1) = false) (k2 : (kind == 2) = false) (k3 : (kind == 3) = false) (k4 : (kind == 4) = false) (k5 : (kind == 5) = false) (k6 : (kind == 6) = true) :
    Calls Try.prog 12 #[.pointer (some ⟨b, 0, none⟩), h, .agg #[.int .i64 kind, .int .i64 which, .int .i64 m, .int .u64 (n : Int), .slice bp bl bc]] w fun e w' => ∃ v' h' new, e = .returned (.tuple #[h', .bool true]) ∧ new.length ≤ bl + 10 ∧ Did w b v h w' v' h' (ws ++ new) (ws ++ new) := by
  obtain ⟨hp, hcap, rfl, hle⟩ := owns_form hh
  have HSz : Hid ((w.alloc (.cells #[.int .i64 kind, .int .i64 which, .int .i64 m, .int .u64 (n : Int), .slice bp bl bc] 33)).heap.size = w.heap.size + 1) := by show _ = _; simp
  have HL := hide hbl
  have HW := hide hw
  have HH := hide hh
  have HF := hide hf
  have HB := hide hb
  have HSm := hide hw.small
  clear hw hh hf hb hbl
  have HA : Hid (Below w.heap.size w (w.alloc (.cells #[.int .i64 kind, .int .i64 which, .int .i64 m, .int .u64 (n : Int), .slice bp bl bc] 33))) := (Below.refl _ _).alloc (Nat.le_refl _) _
  go_enter Try.func12, Try.ntmps12
  go_wp2_with fail
  refine (lend_any _ bp bl bc bs HL.out (HB.out.bytes.below HA.out) (by omega)).mono ?_
  rintro e w1 ⟨g, c, rfl, ho1, hb1⟩
  rw [HSz.out] at hb1 ho1
  have HM1 : Hid (Mid w b v (.slice hp ws.length hcap) ⟨kind, which, m, n, bp, bl, bc, bs⟩ g c w1 v (.slice hp ws.length hcap) ws ws) := Mid.start HW.out HH.out HF.out hb1 ho1
  clear ho1 hb1 HA HW HH HF HSz
  obtain ⟨c0, c1, c2, c3, c4, cf⟩ := blk5 HM1.out.box
  go_wp2_with fail
  refine (wraw_any _ b v ws _ bl c bs HM1.out.did.wr HL.out HM1.out.own.front (by omega)).mono ?_
  rintro e w2 ⟨rfl, hl2⟩
  obtain ⟨v2, hm2⟩ := HM1.out.laid hl2
  have HM2 := hide hm2
  clear hl2 hm2 HM1 c0 c1 c2 c3 c4 cf
  obtain ⟨c0, c1, c2, c3, c4, cf⟩ := blk5 HM2.out.box
  have HY2 := hide ((HB.out.kept (fun k hS hk => HM2.out.did.kept.block k hk hS) HM2.out.did.kept.size).bytes)
  go_wp2_with (at_builtin; refine wpList_append_held rfl (.tmp 79) (.tmp 81) rfl (.slice hp ws.length hcap) ws.length (vals ws) rfl HM2.out.did.hd bp bl bc bs rfl HL.out HY2.out (by omega) ?_; intro h4 w4 hown4 hgrow4 hat4; have HM4 := hide (HM2.out.grown HL.out hown4 hgrow4 hat4); clear hown4 hgrow4 hat4 HM2 HY2 c0 c1 c2 c3 c4 cf; obtain ⟨c0, c1, c2, c3, c4, cf⟩ := blk5 HM4.out.box)
  have HY4 := hide ((HB.out.kept (fun k hS hk => HM4.out.did.kept.block k hk hS) HM4.out.did.kept.size).bytes)
  go_wp2_with fail
  refine (intact_any _ _ g c bl bp bc bs HL.out HM4.out.own HY4.out (by omega)).mono ?_
  rintro e wz ⟨rfl, q, rfl⟩
  have HM8 := hide (HM4.out.below (below_draws2 (Below.refl _ _) q))
  generalize w4.drewN q = w8 at *
  clear HM4 HY4 c0 c1 c2 c3 c4 cf
  go_wp2
  go_loopw [10] (fun i wr => ∃ (k : Nat) (zs : List Nat), k ≤ bl ∧ i = .int .i64 k ∧ Hid (zs.length = bl + 70) ∧ Hid (Own (w.heap.size + 1) wr g c zs) ∧ Hid (But g w8 wr)) (fun i _ => bl - (intOf i).toNat)
  case atStart => exact ⟨0, bs ++ marks, Nat.zero_le _, rfl, by show _ = _; rw [List.length_append, marks_len, HL.out], HM8.out.own, But.refl _ _⟩
  case round =>
    obtain ⟨k, zs, hk, rfl, HZ, HO, HBu⟩ := hrel
    by_cases hlt : k < bl
    · obtain ⟨q0, qf⟩ := HO.out.cell k (by rw [HZ.out]; omega)
      have HO2 := hide (HO.out.set k 238 (by omega))
      generalize zs.getD k 0 = x0 at *
      have l1 : (k : Int) < (bl : Int) := by omega
      have l2 : (0 : Int) ≤ (k : Int) := by omega
      go_wp2
      go_roundw
      case rel => exact ⟨k + 1, zs.set k 238, by omega, by go_num, by show _ = _; rw [List.length_set]; exact HZ.out, HO2, HBu.out.setCell (Or.inl rfl) _⟩
      case measure => simp [intOf]; omega
    · obtain rfl : k = bl := by omega
      go_wp2
      exact bodyPost_ret (v := .tuple #[h4, .bool true]) (by simp [results, Try.results12, go_sem]) rfl ⟨v2, h4, bs, rfl, by rw [HL.out]; omega, HM8.out.filled HBu.out⟩

set_option maxRecDepth 100000 in
set_option maxHeartbeats 4000000 in
theorem writes_len (w : World) (b : Nat) (v h : Value) (ws : List Nat) (kind which m : Int) (n : Nat) (bp : Option Addr) (bl bc : Nat) (bs : List Nat) (hw : Wr w b v ws) (hh : w.ownsRow 0 5 1 h ws.length (vals ws)) (hf : Far v h) (_hn64 : n < 18446744073709551616) (hbl : bs.length = bl) (_hblc : bl ≤ bc) (hb : BytesS (fun k => ¬ Turns b v h k) w bp bs) (hlen : ws.length + bl + 100 ≤ 140737488351232)
    (k1 : (kind == 1) = false) (k2 : (kind == 2) = false) (k3 : (kind == 3) = false) (k4 : (kind == 4) = false) (k5 : (kind == 5) = false) (k6 : (kind == 6) = false) (k7 : (kind == 7) = true) :
    Calls Try.prog 12 #[.pointer (some ⟨b, 0, none⟩), h, .agg #[.int .i64 kind, .int .i64 which, .int .i64 m, .int .u64 (n : Int), .slice bp bl bc]] w fun e w' => ∃ v' h' new, e = .returned (.tuple #[h', .bool true]) ∧ new.length ≤ bl + 10 ∧ Did w b v h w' v' h' (ws ++ new) (ws ++ new) := by
  obtain ⟨hp, hcap, rfl, hle⟩ := owns_form hh
  have HSz : Hid ((w.alloc (.cells #[.int .i64 kind, .int .i64 which, .int .i64 m, .int .u64 (n : Int), .slice bp bl bc] 33)).heap.size = w.heap.size + 1) := by show _ = _; simp
  have HL := hide hbl
  have HW := hide hw
  have HH := hide hh
  have HF := hide hf
  have HB := hide hb
  have HSm := hide hw.small
  clear hw hh hf hb hbl
  have HA : Hid (Below w.heap.size w (w.alloc (.cells #[.int .i64 kind, .int .i64 which, .int .i64 m, .int .u64 (n : Int), .slice bp bl bc] 33))) := (Below.refl _ _).alloc (Nat.le_refl _) _
  go_enter Try.func12, Try.ntmps12
  go_wp2_with fail
  refine (lend_any _ bp bl bc bs HL.out (HB.out.bytes.below HA.out) (by omega)).mono ?_
  rintro e w1 ⟨g, c, rfl, ho1, hb1⟩
  rw [HSz.out] at hb1 ho1
  have HM1 : Hid (Mid w b v (.slice hp ws.length hcap) ⟨kind, which, m, n, bp, bl, bc, bs⟩ g c w1 v (.slice hp ws.length hcap) ws ws) := Mid.start HW.out HH.out HF.out hb1 ho1
  clear ho1 hb1 HA HW HH HF HSz
  obtain ⟨c0, c1, c2, c3, c4, cf⟩ := blk5 HM1.out.box
  have HC := hide (wlen_any w1 b v ws HM1.out.did.wr)
  go_wp2_with fail
  refine HC.out.mono ?_
  rintro e w2 ⟨rfl, rfl⟩
  go_wp2
  exact bodyPost_ret (v := .tuple #[.slice hp ws.length hcap, .bool true]) (by simp [results, Try.results12, go_sem]) rfl ⟨v, .slice hp ws.length hcap, [], rfl, by simp, by simpa using HM1.out.did⟩

set_option maxRecDepth 100000 in
set_option maxHeartbeats 4000000 in
theorem writes_out (w : World) (b : Nat) (v h : Value) (ws : List Nat) (kind which m : Int) (n : Nat) (bp : Option Addr) (bl bc : Nat) (bs : List Nat) (hw : Wr w b v ws) (hh : w.ownsRow 0 5 1 h ws.length (vals ws)) (hf : Far v h) (_hn64 : n < 18446744073709551616) (hbl : bs.length = bl) (_hblc : bl ≤ bc) (hb : BytesS (fun k => ¬ Turns b v h k) w bp bs) (hlen : ws.length + bl + 100 ≤ 140737488351232)
    (k1 : (kind == 1) = false) (k2 : (kind == 2) = false) (k3 : (kind == 3) = false) (k4 : (kind == 4) = false) (k5 : (kind == 5) = false) (k6 : (kind == 6) = false) (k7 : (kind == 7) = false) (k8 : (kind == 8) = true) :
    Calls Try.prog 12 #[.pointer (some ⟨b, 0, none⟩), h, .agg #[.int .i64 kind, .int .i64 which, .int .i64 m, .int .u64 (n : Int), .slice bp bl bc]] w fun e w' => ∃ v' h' new, e = .returned (.tuple #[h', .bool true]) ∧ new.length ≤ bl + 10 ∧ Did w b v h w' v' h' (ws ++ new) (ws ++ new) := by
  obtain ⟨hp, hcap, rfl, hle⟩ := owns_form hh
  have HSz : Hid ((w.alloc (.cells #[.int .i64 kind, .int .i64 which, .int .i64 m, .int .u64 (n : Int), .slice bp bl bc] 33)).heap.size = w.heap.size + 1) := by show _ = _; simp
  have HL := hide hbl
  have HW := hide hw
  have HH := hide hh
  have HF := hide hf
  have HB := hide hb
  have HSm := hide hw.small
  clear hw hh hf hb hbl
  have HA : Hid (Below w.heap.size w (w.alloc (.cells #[.int .i64 kind, .int .i64 which, .int .i64 m, .int .u64 (n : Int), .slice bp bl bc] 33))) := (Below.refl _ _).alloc (Nat.le_refl _) _
  go_enter Try.func12, Try.ntmps12
  go_wp2_with fail
  refine (lend_any _ bp bl bc bs HL.out (HB.out.bytes.below HA.out) (by omega)).mono ?_
  rintro e w1 ⟨g, c, rfl, ho1, hb1⟩
  rw [HSz.out] at hb1 ho1
  have HM1 : Hid (Mid w b v (.slice hp ws.length hcap) ⟨kind, which, m, n, bp, bl, bc, bs⟩ g c w1 v (.slice hp ws.length hcap) ws ws) := Mid.start HW.out HH.out HF.out hb1 ho1
  clear ho1 hb1 HA HW HH HF HSz
  obtain ⟨c0, c1, c2, c3, c4, cf⟩ := blk5 HM1.out.box
  have HC := hide (out_any w1 b v ws HM1.out.did.wr (by omega))
  go_wp2_with fail
  refine HC.out.mono ?_
  rintro e w2 ⟨rfl, rfl⟩
  have HM2 := hide (HM1.out.below ((Below.refl _ _).alloc (Nat.le_refl _) (.cells (vals ws).toArray 5)))
  have HBy := hide (made_bytes w1 ws HSm.out)
  generalize w1.alloc (.cells (vals ws).toArray 5) = w2 at *
  clear HM1 HC c0 c1 c2 c3 c4 cf
  go_wp2_with fail
  refine (eq_true _ _ hp ws.length ws.length hcap ws rfl (by omega) HBy.out (owns_bytes HM2.out.did.hd HSm.out)).mono ?_
  rintro e w3 ⟨rfl, hb3⟩
  have HM3 := hide (HM2.out.below hb3)
  clear hb3
  go_wp2
  exact bodyPost_ret (v := .tuple #[.slice hp ws.length hcap, .bool true]) (by simp [results, Try.results12, go_sem]) rfl ⟨v, .slice hp ws.length hcap, [], rfl, by simp, by simpa using HM3.out.did⟩

set_option maxRecDepth 100000 in
set_option maxHeartbeats 4000000 in
theorem writes_none (w : World) (b : Nat) (v h : Value) (ws : List Nat) (kind which m : Int) (n : Nat) (bp : Option Addr) (bl bc : Nat) (bs : List Nat) (hw : Wr w b v ws) (hh : w.ownsRow 0 5 1 h ws.length (vals ws)) (hf : Far v h) (_hn64 : n < 18446744073709551616) (hbl : bs.length = bl) (hblc : bl ≤ bc) (hb : BytesS (fun k => ¬ Turns b v h k) w bp bs) (hlen : ws.length + bl + 100 ≤ 140737488351232)
    (k1 : (kind == 1) = false) (k2 : (kind == 2) = false) (k3 : (kind == 3) = false) (k4 : (kind == 4) = false) (k5 : (kind == 5) = false) (k6 : (kind == 6) = false) (k7 : (kind == 7) = false) (k8 : (kind == 8) = false) :
    Calls Try.prog 12 #[.pointer (some ⟨b, 0, none⟩), h, .agg #[.int .i64 kind, .int .i64 which, .int .i64 m, .int .u64 (n : Int), .slice bp bl bc]] w fun e w' => ∃ v' h' new, e = .returned (.tuple #[h', .bool true]) ∧ new.length ≤ bl + 10 ∧ Did w b v h w' v' h' (ws ++ new) (ws ++ new) := by
  obtain ⟨hp, hcap, rfl, hle⟩ := owns_form hh
  have HSz : Hid ((w.alloc (.cells #[.int .i64 kind, .int .i64 which, .int .i64 m, .int .u64 (n : Int), .slice bp bl bc] 33)).heap.size = w.heap.size + 1) := by show _ = _; simp
  have HL := hide hbl
  have HW := hide hw
  have HH := hide hh
  have HF := hide hf
  have HB := hide hb
  have HSm := hide hw.small
  clear hw hh hf hb hbl
  have HA : Hid (Below w.heap.size w (w.alloc (.cells #[.int .i64 kind, .int .i64 which, .int .i64 m, .int .u64 (n : Int), .slice bp bl bc] 33))) := (Below.refl _ _).alloc (Nat.le_refl _) _
  go_enter Try.func12, Try.ntmps12
  go_wp2_with fail
  refine (lend_any _ bp bl bc bs HL.out (HB.out.bytes.below HA.out) (by omega)).mono ?_
  rintro e w1 ⟨g, c, rfl, ho1, hb1⟩
  rw [HSz.out] at hb1 ho1
  have HM1 : Hid (Mid w b v (.slice hp ws.length hcap) ⟨kind, which, m, n, bp, bl, bc, bs⟩ g c w1 v (.slice hp ws.length hcap) ws ws) := Mid.start HW.out HH.out HF.out hb1 ho1
  clear ho1 hb1 HA HW HH HF HSz
  obtain ⟨c0, c1, c2, c3, c4, cf⟩ := blk5 HM1.out.box
  have HY1 := hide ((HB.out.kept (fun k hS hk => HM1.out.did.kept.block k hk hS) HM1.out.did.kept.size).bytes)
  go_wp2_with fail
  refine (intact_any _ _ g c bl bp bc bs HL.out HM1.out.own HY1.out (by omega)).mono ?_
  rintro e wz ⟨rfl, q, rfl⟩
  have HM8 := hide (HM1.out.below (below_draws2 (Below.refl _ _) q))
  generalize w1.drewN q = w8 at *
  clear HM1 HY1 c0 c1 c2 c3 c4 cf
  go_wp2
  go_loopw [10] (fun i wr => ∃ (k : Nat) (zs : List Nat), k ≤ bl ∧ i = .int .i64 k ∧ Hid (zs.length = bl + 70) ∧ Hid (Own (w.heap.size + 1) wr g c zs) ∧ Hid (But g w8 wr)) (fun i _ => bl - (intOf i).toNat)
  case atStart => exact ⟨0, bs ++ marks, Nat.zero_le _, rfl, by show _ = _; rw [List.length_append, marks_len, HL.out], HM8.out.own, But.refl _ _⟩
  case round =>
    obtain ⟨k, zs, hk, rfl, HZ, HO, HBu⟩ := hrel
    by_cases hlt : k < bl
    · obtain ⟨q0, qf⟩ := HO.out.cell k (by rw [HZ.out]; omega)
      have HO2 := hide (HO.out.set k 238 (by omega))
      generalize zs.getD k 0 = x0 at *
      have l1 : (k : Int) < (bl : Int) := by omega
      have l2 : (0 : Int) ≤ (k : Int) := by omega
      go_wp2
      go_roundw
      case rel => exact ⟨k + 1, zs.set k 238, by omega, by go_num, by show _ = _; rw [List.length_set]; exact HZ.out, HO2, HBu.out.setCell (Or.inl rfl) _⟩
      case measure => simp [intOf]; omega
    · obtain rfl : k = bl := by omega
      go_wp2
      exact bodyPost_ret (v := .tuple #[.slice hp ws.length hcap, .bool true]) (by simp [results, Try.results12, go_sem]) rfl ⟨v, .slice hp ws.length hcap, [], rfl, by simp, by simpa using HM8.out.filled HBu.out⟩

theorem writes_any (w : World) (b : Nat) (v h : Value) (ws : List Nat) (o : Op1) (hw : Wr w b v ws) (hh : w.ownsRow 0 5 1 h ws.length (vals ws)) (hf : Far v h) (hn : o.Nums) (hb : BytesS (fun k => ¬ Turns b v h k) w o.bp o.bs) (hlen : ws.length + o.bl + 100 ≤ 140737488351232) :
    Calls Try.prog 12 #[.pointer (some ⟨b, 0, none⟩), h, .agg #[.int .i64 o.kind, .int .i64 o.which, .int .i64 o.m, .int .u64 (o.n : Int), .slice o.bp o.bl o.bc]] w fun e w' => ∃ v' h' new, e = .returned (.tuple #[h', .bool true]) ∧ new.length ≤ o.bl + 10 ∧ Did w b v h w' v' h' (ws ++ new) (ws ++ new) := by
  obtain ⟨kind, which, m, n, bp, bl, bc, bs⟩ := o
  have h1 := hn.n2
  have h2 := hn.len
  have h3 := hn.cap
  simp only at h1 h2 h3 hb hlen ⊢
  by_cases k1 : (kind == 1) = true
  · exact writes_u8 w b v h ws kind which m n bp bl bc bs hw hh hf h1 h2 h3 hb hlen k1
  simp only [Bool.not_eq_true] at k1
  by_cases k2 : (kind == 2) = true
  · exact writes_u32 w b v h ws kind which m n bp bl bc bs hw hh hf h1 h2 h3 hb hlen k1 k2
  simp only [Bool.not_eq_true] at k2
  by_cases k3 : (kind == 3) = true
  · exact writes_u64 w b v h ws kind which m n bp bl bc bs hw hh hf h1 h2 h3 hb hlen k1 k2 k3
  simp only [Bool.not_eq_true] at k3
  by_cases k4 : (kind == 4) = true
  · exact writes_var w b v h ws kind which m n bp bl bc bs hw hh hf h1 h2 h3 hb hlen k1 k2 k3 k4
  simp only [Bool.not_eq_true] at k4
  by_cases k5 : (kind == 5) = true
  · exact writes_bytes w b v h ws kind which m n bp bl bc bs hw hh hf h1 h2 h3 hb hlen k1 k2 k3 k4 k5
  simp only [Bool.not_eq_true] at k5
  by_cases k6 : (kind == 6) = true
  · exact writes_raw w b v h ws kind which m n bp bl bc bs hw hh hf h1 h2 h3 hb hlen k1 k2 k3 k4 k5 k6
  simp only [Bool.not_eq_true] at k6
  by_cases k7 : (kind == 7) = true
  · exact writes_len w b v h ws kind which m n bp bl bc bs hw hh hf h1 h2 h3 hb hlen k1 k2 k3 k4 k5 k6 k7
  simp only [Bool.not_eq_true] at k7
  by_cases k8 : (kind == 8) = true
  · exact writes_out w b v h ws kind which m n bp bl bc bs hw hh hf h1 h2 h3 hb hlen k1 k2 k3 k4 k5 k6 k7 k8
  simp only [Bool.not_eq_true] at k8
  exact writes_none w b v h ws kind which m n bp bl bc bs hw hh hf h1 h2 h3 hb hlen k1 k2 k3 k4 k5 k6 k7 k8

end Go.Proofs.Ytlnldipiofddkaa
