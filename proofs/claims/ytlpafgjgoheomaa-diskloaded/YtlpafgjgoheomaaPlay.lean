import Derived.Test.YtlpafgjgoheomaaLaw1
namespace Go.Proofs.Ytlpafgjgoheomaa
open Go.RowKit Go.Maps

/-- A step of a script in memory. -/
structure Opm where
  x : Opx
  on : Int
  bp : Option Addr
  bc : Nat
  p1 : Int
  p2 : Int
  p3 : Int
  kp : Option Addr
  kl : Nat
  kc : Nat
def opc (q : Opm) : List Value := [.int .i64 q.x.kind, .int .i64 q.on, .int .i64 q.x.n, .string ⟨q.x.name.toArray⟩, .string ⟨q.x.to.toArray⟩, .slice q.bp q.x.b.length q.bc, .int .i64 q.p1, .int .i64 q.p2, .int .i64 q.p3, .slice q.kp q.kl q.kc]
/-- What holds of a step. -/
structure OpOk (w : World) (K : Knd) (q : Opm) : Prop where
  nn : -9223372036854775808 ≤ q.x.n ∧ q.x.n ≤ 9223372036854775807
  name : q.x.name.length ≤ 140737488355328
  to : q.x.to.length ≤ 140737488355328
  by_ : Bytes w q.bp q.x.b
  al : q.x.b = [] ∨ ∀ g o, q.bp = some ⟨g, o, none⟩ → K g = (0, 0) ∧ g < w.heap.size
  cap : q.x.b.length ≤ q.bc
theorem OpOk.kept {p : Nat × Nat → Prop} {K K' : Knd} {w w' : World} {q : Opm} (h : OpOk w K q) (hk : Kp p K K' w w') (hp : ¬ p (0, 0)) : OpOk w' K' q :=
  ⟨h.nn, h.name, h.to, by
    rcases h.al with h0 | al
    · exact ⟨h.by_.small, Or.inl h0⟩
    · exact bytes_kept h.by_ hk.size (fun g o e hg => hk.block g hg (by rw [(al g o e).1]; exact hp)), h.al.imp id (fun al g o e => ⟨(hk.same g (al g o e).2).trans (al g o e).1, Nat.lt_of_lt_of_le (al g o e).2 hk.size⟩), h.cap⟩
theorem opblk {w : World} {b : Nat} {q : Opm} {t : TypeId} (h : w.heap[b]? = some (.cells (opc q).toArray t (0, 0))) :
    w.cell? ⟨b, 0, none⟩ = some (.int .i64 q.x.kind) ∧ w.cell? ⟨b, 2, none⟩ = some (.int .i64 q.x.n) ∧ w.cell? ⟨b, 3, none⟩ = some (.string ⟨q.x.name.toArray⟩) ∧ w.cell? ⟨b, 4, none⟩ = some (.string ⟨q.x.to.toArray⟩) ∧ w.cell? ⟨b, 5, none⟩ = some (.slice q.bp q.x.b.length q.bc) :=
  ⟨by simp [World.cell?, h, opc], by simp [World.cell?, h, opc], by simp [World.cell?, h, opc], by simp [World.cell?, h, opc], by simp [World.cell?, h, opc]⟩

theorem Dk.kept {p : Nat × Nat → Prop} {K K' : Knd} {w w' : World} {o d : Nat} {S : St} (h : Dk w K o d S) (hk : Kp p K K' w w') (hp : ∀ k, ¬ p (o, k)) : Dk w' K' o d S := by
  obtain ⟨loc, sv, nv, cv, hm⟩ := h
  exact ⟨loc, sv, nv, cv, hm.kept hk hp⟩

set_option maxRecDepth 100000 in
set_option maxHeartbeats 2000000 in
theorem play_any (w : World) (K : Knd) (o d : Nat) (ho : o ≠ 0) (S : St) (h : Dk w K o d S) (hv : Inv S) (k : Nat) (hz : Sz S k) (q : Opm) (hq : OpOk w K q) (hk : k + q.x.b.length ≤ 549755813888) :
    Calls Try.prog 24 #[.pointer (some ⟨d, 0, none⟩), .agg (opc q).toArray] w fun e w' => ∃ K', e = .returned (.int .i64 ((S.play q.x).1 : Int)) ∧ Dk w' K' o d (S.play q.x).2 ∧ Kp (Ow o) K K' w w' := by
  have kb := kp_below (w := w) (w' := w.alloc (.cells (opc q).toArray 57)) ((Below.refl _ _).alloc (Nat.le_refl _) _) (fun _ => False) K (0, 0)
  have HD := hide (h.kept kb (fun _ h => h))
  have HQ := hide (hq.kept kb (fun h => h))
  have HKb := hide (kb.mono (q := Ow o) (fun k hk => hk.elim))
  have HV := hide hv
  have HZ := hide hz
  have HK := hide hk
  have hbx : (w.alloc (.cells (opc q).toArray 57)).heap[w.heap.size]? = some (.cells (opc q).toArray 57 (0, 0)) := heap_alloc_new _ _
  obtain ⟨c0, c2, c3, c4, c5⟩ := opblk hbx
  clear kb h hq hv hz hk hbx
  generalize hS : S.play q.x = R at *
  unfold opc at *
  obtain ⟨⟨kind, n, name, to, b⟩, on, bp, bc, p1, p2, p3, kp, kl, kc⟩ := q
  simp only at *
  by_cases h1 : kind = 1
  · subst h1
    have eR : R = S.appendR name b := by rw [← hS]; unfold St.play; simp
    subst eR
    clear hS
    go_enter Try.func24, Try.ntmps24
    go_wp2_with fail
    refine (Append_any _ _ o d S HD.out k name HQ.out.name bp b.length bc b rfl ⟨HV.out, HZ.out, HK.out, HQ.out.by_, HQ.out.al.imp id (fun al g q e => by rw [(al g q e).1]; exact fun h => ho h.symm), HQ.out.al.imp id (fun al g q e => (al g q e).2)⟩).mono ?_
    rintro e w2 ⟨K2, rfl, hd2, hk2⟩
    have HD2 := hide hd2
    have HK2 := hide hk2
    clear hd2 hk2
    go_wp2_with fail
    refine (num_any _ _).mono ?_
    rintro e w3 ⟨rfl, rfl⟩
    go_wp2
    go_ret
    exact ⟨K2, rfl, HD2.out, HKb.out.trans HK2.out⟩
  by_cases h2 : kind = 2
  · subst h2
    have eR : R = S.cutR name n := by rw [← hS]; unfold St.play; simp
    subst eR
    clear hS
    go_enter Try.func24, Try.ntmps24
    go_wp2_with fail
    refine (Cut_any _ _ o d S HD.out HV.out k HZ.out (by have := HK.out; omega) name HQ.out.name n HQ.out.nn).mono ?_
    rintro e w2 ⟨K2, rfl, hd2, hk2⟩
    have HD2 := hide hd2
    have HK2 := hide hk2
    clear hd2 hk2
    go_wp2_with fail
    refine (num_any _ _).mono ?_
    rintro e w3 ⟨rfl, rfl⟩
    go_wp2
    go_ret
    exact ⟨K2, rfl, HD2.out, HKb.out.trans HK2.out⟩
  by_cases h3 : kind = 3
  · subst h3
    have eR : R = S.syncR name := by rw [← hS]; unfold St.play; simp
    subst eR
    clear hS
    go_enter Try.func24, Try.ntmps24
    go_wp2_with fail
    refine (Sync_any _ _ o d S HD.out HV.out k HZ.out (by have := HK.out; omega) name HQ.out.name).mono ?_
    rintro e w2 ⟨K2, rfl, hd2, hk2⟩
    have HD2 := hide hd2
    have HK2 := hide hk2
    clear hd2 hk2
    go_wp2_with fail
    refine (num_any _ _).mono ?_
    rintro e w3 ⟨rfl, rfl⟩
    go_wp2
    go_ret
    exact ⟨K2, rfl, HD2.out, HKb.out.trans HK2.out⟩
  by_cases h4 : kind = 4
  · subst h4
    have eR : R = S.namesR := by rw [← hS]; unfold St.play; simp
    subst eR
    clear hS
    go_enter Try.func24, Try.ntmps24
    go_wp2_with fail
    refine (SyncNames_any _ _ o d S HD.out HV.out k HZ.out (by have := HK.out; omega)).mono ?_
    rintro e w2 ⟨K2, rfl, hd2, hk2⟩
    have HD2 := hide hd2
    have HK2 := hide hk2
    clear hd2 hk2
    go_wp2_with fail
    refine (num_any _ _).mono ?_
    rintro e w3 ⟨rfl, rfl⟩
    go_wp2
    go_ret
    exact ⟨K2, rfl, HD2.out, HKb.out.trans HK2.out⟩
  by_cases h5 : kind = 5
  · subst h5
    have eR : R = S.renameR name to := by rw [← hS]; unfold St.play; simp
    subst eR
    clear hS
    go_enter Try.func24, Try.ntmps24
    go_wp2_with fail
    refine (Rename_any _ _ o d S HD.out HV.out k HZ.out (by have := HK.out; omega) name to HQ.out.name HQ.out.to).mono ?_
    rintro e w2 ⟨K2, rfl, hd2, hk2⟩
    have HD2 := hide hd2
    have HK2 := hide hk2
    clear hd2 hk2
    go_wp2_with fail
    refine (num_any _ _).mono ?_
    rintro e w3 ⟨rfl, rfl⟩
    go_wp2
    go_ret
    exact ⟨K2, rfl, HD2.out, HKb.out.trans HK2.out⟩
  by_cases h6 : kind = 6
  · subst h6
    have eR : R = S.removeR name := by rw [← hS]; unfold St.play; simp
    subst eR
    clear hS
    go_enter Try.func24, Try.ntmps24
    go_wp2_with fail
    refine (Remove_any _ _ o d S HD.out HV.out k HZ.out (by have := HK.out; omega) name HQ.out.name).mono ?_
    rintro e w2 ⟨K2, rfl, hd2, hk2⟩
    have HD2 := hide hd2
    have HK2 := hide hk2
    clear hd2 hk2
    go_wp2_with fail
    refine (num_any _ _).mono ?_
    rintro e w3 ⟨rfl, rfl⟩
    go_wp2
    go_ret
    exact ⟨K2, rfl, HD2.out, HKb.out.trans HK2.out⟩
  have eR : R = (0, S) := by rw [← hS]; unfold St.play; simp [h1, h2, h3, h4, h5, h6]
  subst eR
  clear hS
  go_enter Try.func24, Try.ntmps24
  go_wp2
  go_ret
  exact ⟨_, rfl, HD.out, HKb.out⟩

end Go.Proofs.Ytlpafgjgoheomaa
