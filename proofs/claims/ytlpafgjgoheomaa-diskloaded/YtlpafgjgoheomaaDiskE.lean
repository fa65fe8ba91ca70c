import Derived.Test.YtlpafgjgoheomaaDiskD
namespace Go.Proofs.Ytlpafgjgoheomaa
open Go.RowKit Go.Maps

set_option maxRecDepth 100000 in
set_option maxHeartbeats 400000 in
theorem or_first (w : World) (g : Nat) (c0 : w.cell? ⟨g, 0, none⟩ = some (.int .i64 45)) :
    Calls Try.prog 64 #[.slice (some ⟨g, 0, none⟩) 2 2] w fun e w' => e = .returned (.int .i64 45) ∧ w' = w := by
  go_enter Try.func64, Try.ntmps64
  go_wp2
  refine wp_loop_rounds 1 ?_
  rw [rounds_succ]
  go_wp2
  go_ret
  exact ⟨rfl, rfl⟩

set_option maxRecDepth 100000 in
set_option maxHeartbeats 400000 in
theorem or_second (w : World) (g : Nat) (c0 : w.cell? ⟨g, 0, none⟩ = some (.int .i64 0)) (c1 : w.cell? ⟨g, 1, none⟩ = some (.int .i64 44)) :
    Calls Try.prog 64 #[.slice (some ⟨g, 0, none⟩) 2 2] w fun e w' => e = .returned (.int .i64 44) ∧ w' = w := by
  go_enter Try.func64, Try.ntmps64
  go_wp2
  refine wp_loop_rounds 2 ?_
  rw [rounds_succ]
  go_wp2
  rw [rounds_succ]
  go_wp2
  go_ret
  exact ⟨rfl, rfl⟩

theorem or_any (w : World) (g a : Nat) (ha : a = 0 ∨ a = 45) (c0 : w.cell? ⟨g, 0, none⟩ = some (.int .i64 (a : Int))) (c1 : w.cell? ⟨g, 1, none⟩ = some (.int .i64 44)) :
    Calls Try.prog 64 #[.slice (some ⟨g, 0, none⟩) 2 2] w fun e w' => e = .returned (.int .i64 ((if a = 0 then 44 else a : Nat) : Int)) ∧ w' = w := by
  rcases ha with rfl | rfl
  · exact or_second w g c0 c1
  · exact or_first w g c0

/-- A DISK IN MEMORY, with what holds of it. -/
structure Inv (S : St) : Prop where
  room : S.room ≤ 16777216
  srt : Srt S.seen
  srts : Srt S.safe
  ins : ∀ p ∈ S.seen, p.2 < S.files.length ∧ isNm p.1 = true
  inf : ∀ p ∈ S.safe, p.2 < S.files.length ∧ isNm p.1 = true
  chg : ∀ c ∈ S.chg, (c.frm = [] ∨ isNm c.frm = true) ∧ (c.to = [] ∨ (isNm c.to = true ∧ c.file < S.files.length))
  nod : (S.seen.map (·.2)).Nodup
  most : S.seen.length ≤ 64
  mosts : S.safe.length ≤ 64
  used : S.used ≤ S.room
  fold : S.seen = S.chg.foldl withN S.safe
structure Sz (S : St) (k : Nat) : Prop where
  st : S.strokes ≤ k
  pl : S.planned ≤ k
  ch : S.chg.length ≤ k
  fl : ∀ f ∈ S.files, f.ok ∧ f.safe.length ≤ 16777216 ∧ f.units.length ≤ k
theorem nm_len {x : Nm} (h : isNm x = true) : 1 ≤ x.length ∧ x.length ≤ 64 := by
  simp only [isNm, Bool.and_eq_true, decide_eq_true_eq] at h
  exact h.1
theorem Inv.lens {S : St} (h : Inv S) : ∀ c ∈ S.chg, c.frm.length ≤ 64 ∧ c.to.length ≤ 64 := fun c hc => by
  obtain ⟨h1, h2⟩ := h.chg c hc
  constructor
  · rcases h1 with e | e
    · rw [e]; simp
    · exact (nm_len e).2
  · rcases h2 with e | e
    · rw [e]; simp
    · exact (nm_len e.1).2
theorem St.seen_file {S : St} (h : Inv S) {x : Nm} {i : Nat} (hl : lookN S.seen x = some i) : i < S.files.length := (h.ins _ ((look_mem h.srt).1 hl)).1
theorem sum_mem_le {α : Type} (g : α → Nat) : ∀ {l : List α} {p : α}, p ∈ l → g p ≤ (l.map g).sum
  | [], _, h => by cases h
  | q :: l, p, h => by
    rw [List.map_cons, List.sum_cons]
    rcases List.mem_cons.1 h with rfl | h
    · omega
    · have := sum_mem_le g h
      omega
theorem St.file_le {S : St} (h : Inv S) {x : Nm} {i : Nat} (hl : lookN S.seen x = some i) : (S.file i).all.length ≤ 16777216 := by
  have h1 : (S.file i).all.length ≤ _ := sum_mem_le (fun p : Nm × Nat => (S.file p.2).all.length) ((look_mem h.srt).1 hl)
  have h2 := h.used
  have h3 := h.room
  unfold St.used at h2
  omega

theorem kp_wr2 {b : Nat} {r : Option Nat} {w w' : World} (h : Wr2 b r w w') (K : Knd) (k1 k2 : Nat × Nat) (hb : K b = k1) (hr : ∀ g, r = some g → K g = k2) : Kp (fun k => k = k1 ∨ k = k2) K (ext K w.heap.size k2) w w' :=
  ⟨h.os, h.tape, h.output, h.size, fun _ hb => ext_old K k2 hb, fun c hc hn => h.block c hc (by rintro rfl; exact hn (Or.inl hb)) (fun e => hn (Or.inr (hr c e.symm)))⟩
theorem lies_kind {w : World} {K : Knd} {v v' : Value} {k : Nat × Nat} (hl : Lies w v v') (hk : ∀ g, v.ownBlock = some g → K g = k) (hlt : ∀ g, v.ownBlock = some g → g < w.heap.size) : ∀ g, v'.ownBlock = some g → ext K w.heap.size k g = k := fun g hg => by
  rcases hl with e | ⟨g', e, e2⟩
  · rw [e] at hg; rw [ext_old K k (hlt g hg)]; exact hk g hg
  · rw [e] at hg; cases hg; exact ext_new K k e2

/-- Bytes that no disk of this owner holds. -/
def Alien (K : Knd) (o : Nat) (sp : Option Addr) (xs : List Nat) : Prop := xs = [] ∨ ∀ g p, sp = some ⟨g, p, none⟩ → (K g).1 ≠ o

theorem Dm.addF {w : World} {K : Knd} {o d : Nat} {loc : Nat → Nat} {sv nv cv : Value} {S : St} (h : Dm w K o d loc sv nv cv S) {i : Nat} {f : Fil} (hf : S.files[i]? = some f) (sp : Option Addr) (m cap : Nat) (xs : List Nat) (hm : xs.length = m) (hx : Bytes w sp xs) (ha : Alien K o sp xs) (hn : f.all.length + f.units.length + m ≤ 1099511627776) :
    Calls Try.prog 65 #[.pointer (some ⟨loc i, 0, none⟩), .slice sp m cap] w fun e w' => ∃ K', e = .returned (.tuple #[]) ∧ Dm w' K' o d loc sv nv cv (S.turn i (f.add xs)) ∧ Kp (fun k => k.1 = o) K K' w w' := by
  have hk := h.fl i f hf
  obtain ⟨fs, fu, h1, h2, h3⟩ := hk.fl
  refine (add_any w (loc i) fs fu f h1 sp m cap xs hm hx (ha.imp id (fun ha g p e => ⟨fun e2 => ha g p e (by rw [e2, hk.kb]), fun e2 => ha g p e (by rw [h3 g e2.symm])⟩)) hn).mono ?_
  rintro e w' ⟨fu', rfl, hfl, hw, hl⟩
  have kp := kp_wr2 hw K (o, 5 + 3 * i) (o, 7 + 3 * i) hk.kb h3
  refine ⟨_, rfl, h.turnF kp (fun k hk => by rcases hk with e | e; exact Or.inl e; exact Or.inr (Or.inr e)) ⟨(kp.same _ hk.lt).trans hk.kb, fs, fu', hfl, fun g hg => (kp.same g (rk_lt h1.safe hg)).trans (h2 g hg), lies_kind hl h3 (fun g hg => rk_lt h1.unit hg)⟩, kp.mono (fun k hk => by rcases hk with e | e <;> (subst e; rfl))⟩

theorem Dm.cutF {w : World} {K : Knd} {o d : Nat} {loc : Nat → Nat} {sv nv cv : Value} {S : St} (h : Dm w K o d loc sv nv cv S) {i : Nat} {f : Fil} (hf : S.files[i]? = some f) (n : Nat) (hle : n ≤ f.all.length) (hn2 : f.all.length < 2147483648) (hu : f.units.length < 1099511627776) :
    Calls Try.prog 66 #[.pointer (some ⟨loc i, 0, none⟩), .int .i64 (n : Int)] w fun e w' => ∃ K', e = .returned (.tuple #[]) ∧ Dm w' K' o d loc sv nv cv (S.turn i (f.cut n)) ∧ Kp (fun k => k.1 = o) K K' w w' := by
  have hk := h.fl i f hf
  obtain ⟨fs, fu, h1, h2, h3⟩ := hk.fl
  refine (cut_any w (loc i) fs fu f h1 n hle hn2 hu).mono ?_
  rintro e w' ⟨fu', rfl, hfl, hw, hl⟩
  have kp := kp_wr2 hw K (o, 5 + 3 * i) (o, 7 + 3 * i) hk.kb h3
  refine ⟨_, rfl, h.turnF kp (fun k hk => by rcases hk with e | e; exact Or.inl e; exact Or.inr (Or.inr e)) ⟨(kp.same _ hk.lt).trans hk.kb, fs, fu', hfl, fun g hg => (kp.same g (rk_lt h1.safe hg)).trans (h2 g hg), lies_kind hl h3 (fun g hg => rk_lt h1.unit hg)⟩, kp.mono (fun k hk => by rcases hk with e | e <;> (subst e; rfl))⟩

theorem Dm.settleF {w : World} {K : Knd} {o d : Nat} {loc : Nat → Nat} {sv nv cv : Value} {S : St} (h : Dm w K o d loc sv nv cv S) {i : Nat} {f : Fil} (hf : S.files[i]? = some f) (hn : f.safe.length + f.units.length ≤ 1099511627776) :
    Calls Try.prog 67 #[.pointer (some ⟨loc i, 0, none⟩)] w fun e w' => ∃ K', e = .returned (.tuple #[]) ∧ Dm w' K' o d loc sv nv cv (S.turn i f.settled) ∧ Kp (fun k => k.1 = o) K K' w w' := by
  have hk := h.fl i f hf
  obtain ⟨fs, fu, h1, h2, h3⟩ := hk.fl
  refine (settle_any w (loc i) fs fu f h1 hn).mono ?_
  rintro e w' ⟨fs', rfl, hfl, hw, hl⟩
  have kp := kp_wr2 hw K (o, 5 + 3 * i) (o, 6 + 3 * i) hk.kb h2
  refine ⟨_, rfl, h.turnF kp (fun k hk => by rcases hk with e | e; exact Or.inl e; exact Or.inr (Or.inl e)) ⟨(kp.same _ hk.lt).trans hk.kb, fs', _, hfl, lies_kind hl h2 (fun g hg => rk_lt h1.safe hg), fun g hg => by simp [Value.ownBlock] at hg⟩, kp.mono (fun k hk => by rcases hk with e | e <;> (subst e; rfl))⟩

theorem Dm.leftF {w : World} {K : Knd} {o d : Nat} {loc : Nat → Nat} {sv nv cv : Value} {S : St} (h : Dm w K o d loc sv nv cv S) {i : Nat} {f : Fil} (hf : S.files[i]? = some f) (n : Nat) (hle : n ≤ f.units.length) (hn : f.safe.length + f.units.length ≤ 1099511627776) :
    Calls Try.prog 44 #[.pointer (some ⟨loc i, 0, none⟩), .int .i64 (n : Int)] w fun e w' => ∃ a c, e = .returned (.slice a (f.left n).length c) ∧ w'.ownsRow w.heap.size 5 1 (.slice a (f.left n).length c) (f.left n).length (vals (f.left n)) ∧ Below w.heap.size w w' := by
  obtain ⟨fs, fu, h1, h2, h3⟩ := (h.fl i f hf).fl
  exact left_any w (loc i) fs fu f h1 n hle hn

/-- A file is made. -/
def upd (loc : Nat → Nat) (n b : Nat) : Nat → Nat := fun i => if i = n then b else loc i
theorem upd_same (loc : Nat → Nat) (n b : Nat) : upd loc n b n = b := by simp [upd]
theorem upd_ne (loc : Nat → Nat) {n b i : Nat} (h : i ≠ n) : upd loc n b i = loc i := by simp [upd, h]
theorem Dm.madeF {w w' : World} {K : Knd} {o d : Nat} {loc : Nat → Nat} {sv nv cv : Value} {S : St} (h : Dm w K o d loc sv nv cv S) {f : Fil} {b : Nat} (hb : Below w.heap.size w w') (hf : Fk w' (fun c => if c < w.heap.size then K c else if c = b then (o, 5 + 3 * S.files.length) else (o, 6 + 3 * S.files.length)) o S.files.length b f)
    (hs : ∀ p ∈ S.safe, p.2 < S.files.length) (hn : ∀ p ∈ S.seen, p.2 < S.files.length) (hc : ∀ c ∈ S.chg, c.to ≠ [] → c.file < S.files.length) :
    Dm w' (fun c => if c < w.heap.size then K c else if c = b then (o, 5 + 3 * S.files.length) else (o, 6 + 3 * S.files.length)) o d (upd loc S.files.length b) sv nv cv (S.made f) ∧ Kp (fun k => k.1 = o) K (fun c => if c < w.heap.size then K c else if c = b then (o, 5 + 3 * S.files.length) else (o, 6 + 3 * S.files.length)) w w' := by
  have kp : ∀ p, Kp p K (fun c => if c < w.heap.size then K c else if c = b then (o, 5 + 3 * S.files.length) else (o, 6 + 3 * S.files.length)) w w' := fun p => ⟨hb.os, hb.tape, hb.output, hb.size, fun c hc => by simp [hc], fun c hc _ => hb.block c hc⟩
  have hd := h.kept (kp (fun _ => False)) (fun _ h => h)
  refine ⟨⟨hd.blk, hd.kd, ?_, ?_, ?_, fun i g hg => ?_⟩, kp _⟩
  · have := hd.sf
    rw [mapN_cong (g' := upd loc S.files.length b) (fun p hp => (upd_ne loc (by have := hs p hp; omega)).symm)] at this
    exact this
  · have := hd.sn
    rw [mapN_cong (g' := upd loc S.files.length b) (fun p hp => (upd_ne loc (by have := hn p hp; omega)).symm)] at this
    exact this
  · have := hd.ch
    rw [chvs_cong (loc' := upd loc S.files.length b) (fun c hcm hne => (upd_ne loc (by have := hc c hcm hne; omega)).symm)] at this
    exact this
  · have hg' : (S.files ++ [f])[i]? = some g := hg
    by_cases e : i < S.files.length
    · rw [List.getElem?_append_left e] at hg'
      rw [upd_ne loc (by omega)]
      exact hd.fl i g hg'
    · have hi : i = S.files.length := by
        have := (List.getElem?_eq_some_iff.1 hg').1
        simp at this; omega
      subst hi
      simp at hg'
      subst hg'
      rw [upd_same]
      exact hf

end Go.Proofs.Ytlpafgjgoheomaa
