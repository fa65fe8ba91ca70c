import Derived.Test.YtbcpoejpbhpcbaaDoorEnG
import Derived.Test.YtbcpoejpbhpcbaaDoorSeK
import Derived.Test.YtbcpoejpbhpcbaaDoorSeL
namespace Go.Proofs.YtbcpoejpbhpcbaaDoor
open Go.RowKit

/-- The pair with its links, behind at most k steps. -/
def Pst (w wr : World) (pb W M l0 l1 b0 b1 : Nat) (A B : Lk) (k : Nat) : Prop := ∃ K sv s0 s1 ra rb S T es, Pm w wr K pb W M l0 l1 b0 b1 sv s0 s1 A B ra rb S T es ∧ Pd W M l0 l1 A B S T es k ∧ Pe W M l0 l1 A B S T es
theorem Pd.le {W M l0 l1 : Nat} {A B : Lk} {S T : List Sm} {es : List Fe} {k : Nat} (h : Pd W M l0 l1 A B S T es k) : ∀ {k' : Nat}, k ≤ k' → Pd W M l0 l1 A B S T es k'
  | k', hk => by
    induction k' with
    | zero => obtain rfl : k = 0 := by omega
              exact h
    | succ n ih =>
      by_cases e : k = n + 1
      · rw [← e]; exact h
      · exact (ih (by omega)).up
set_option maxRecDepth 100000 in
set_option maxHeartbeats 8000000 in
set_option linter.unusedVariables false in
theorem turnP (w wr : World) (pb W M l0 l1 b0 b1 : Nat) (A B : Lk) (k : Nat) (h : Pst w wr pb W M l0 l1 b0 b1 A B k) (hk : k ≤ 19900) :
    Calls Tryd.prog 10 #[.pointer (some ⟨pb, 0, none⟩)] wr fun e w' => e = .returned (.bool true) ∧ Pst w w' pb W M l0 l1 b0 b1 (turnA A B) (turnB A B) (k + 12) := by
  have HSt := hide h
  clear h
  go_enter Tryd.func10, Tryd.ntmps10
  go_wp2
  go_loopw [3] (fun iv w' => (iv = .int .i64 0 ∧ Hid (Pst w w' pb W M l0 l1 b0 b1 A B k)) ∨ (iv = .int .i64 1 ∧ Hid (Pst w w' pb W M l0 l1 b0 b1 (tickL A) (turnB1 A B) (k + 6))) ∨ (iv = .int .i64 2 ∧ Hid (Pst w w' pb W M l0 l1 b0 b1 (turnA A B) (turnB A B) (k + 12)))) (fun iv _ => 2 - (intOf iv).toNat)
  case atStart => exact Or.inl ⟨rfl, HSt⟩
  case round =>
  clear HSt
  rcases hrel with ⟨rfl, HSt0⟩ | ⟨rfl, HSt1⟩ | ⟨rfl, HSt2⟩
  · rename World => wq
    obtain ⟨K, sv, s0, s1, ra, rb, S, T, es, hp, hd, hpe⟩ := HSt0.out
    obtain ⟨sa, sc, hsv, -, -⟩ := hp.sent.form
    obtain ⟨q, hq⟩ : ∃ q, es.length = q := ⟨_, rfl⟩
    rw [hq] at hsv
    have HT := hide (tickP0 w wq K pb W M l0 l1 b0 b1 sv s0 s1 A B ra rb S T es k hp hd (by omega))
    have HFo := hide (fun f (hf : f ∈ outF A) => (hd.a.outs (by omega) (by omega) (by omega) f hf).1)
    have HOl := hide (out_len A (by have := hd.wa; have := hd.w1; omega))
    rw [hd.wa] at HOl
    have HD0 := hide hd
    have HE0 := hide hpe
    have hql : q ≤ 100000 := by rw [← hq]; have := hd.el; omega
    obtain ⟨p0, p1, p2, p3, p4, p5, p6, p7, p8, pf, hpb⟩ := hp.pk.cells
    rw [hsv] at p6
    have HQ := hide hq
    have hW5 : W ≤ 5 := hd.w1.2
    clear hp hd hpe hsv hq
    go_wp2_with fail
    refine HT.out.mono ?_
    rintro e w2 ⟨rfl, sv', K2, fs, hfs, hpm⟩
    have HPd := hide (HD0.out.tick0 (by omega) hfs)
    have HPe := hide (HE0.out.tick0 HD0.out hfs)
    have HPm := hide hpm
    have HFs := hide hfs
    obtain ⟨sa2, sc2, hsv2, -, -⟩ := hpm.sent.form
    obtain ⟨N, hN⟩ : ∃ N, (es ++ fs).length = N := ⟨_, rfl⟩
    rw [hN] at hsv2
    obtain ⟨f, hf⟩ : ∃ f, fs.length = f := ⟨_, rfl⟩
    have hNf : N = q + f := by rw [← hN, List.length_append, HQ.out, hf]
    have hf5 : f ≤ 5 := by
      have h1 := HOl.out
      have h2 : fs.length = (outF A).length := by rw [← hfs, List.length_map]
      omega
    have HN := hide hN
    have HF := hide hf
    have HNf := hide hNf
    have hqN : q ≤ N := by omega
    have hNl : N ≤ 100005 := by omega
    have HSv := hide hsv2
    clear p0 p1 p2 p3 p4 p5 p6 p7 p8 pf hpb hpm hfs HT HD0 HE0 hsv2 hN hf hNf
    obtain ⟨p0, p1, p2, p3, p4, p5, p6, p7, p8, pf, hpb⟩ := HPm.out.pk.cells
    rw [HSv.out] at p6
    go_wp2
    go_loopw [6] (fun iv w' => ∃ (p : Nat) (K' : Knd) (s' r' : Value) (S' : List Sm), q ≤ p ∧ p ≤ N ∧ iv = .int .i64 (p : Int) ∧ Hid (Pm w w' K' pb W M l0 l1 b0 b1 sv' s0 s' (tickL A) (hearAll B ((outF A).take (p - q))) ra r' S S' (es ++ fs) ∧ Pd W M l0 l1 (tickL A) (hearAll B ((outF A).take (p - q))) S S' (es ++ fs) (k + 1 + (p - q)) ∧ Pe W M l0 l1 (tickL A) (hearAll B ((outF A).take (p - q))) S S' (es ++ fs))) (fun iv _ => N - (intOf iv).toNat)
    case atStart =>
      refine ⟨q, K2, s1, rb, T, Nat.le_refl _, hqN, rfl, ?_⟩
      have e0 : q - q = 0 := Nat.sub_self q
      show _ ∧ _
      rw [e0, List.take_zero]
      exact ⟨HPm.out, HPd.out, HPe.out⟩
    case round =>
    obtain ⟨p, K3, s3, r3, S3, hqp, hpN, rfl, HR⟩ := hrel
    rename World => w3
    clear p0 p1 p2 p3 p4 p5 p6 p7 p8 pf hpb
    obtain ⟨p0, p1, p2, p3, p4, p5, p6, p7, p8, pf, hpb⟩ := HR.out.1.pk.cells
    by_cases hlt : p < N
    rotate_left
    · obtain rfl : p = N := by omega
      have n1 : ¬ (p : Int) < (p : Int) := by omega
      have HE : Hid (Pst w w3 pb W M l0 l1 b0 b1 (tickL A) (turnB1 A B) (k + 6)) := by
        have h1 := HR.out
        have e1 : (outF A).take (p - q) = outF A := List.take_of_length_le (by
          have h2 : fs.length = (outF A).length := by rw [← HFs.out, List.length_map]
          have h3 := HF.out
          have h4 := HNf.out
          omega)
        rw [e1] at h1
        exact ⟨_, _, _, _, _, _, _, _, _, h1.1, h1.2.1.le (by have := HNf.out; omega), h1.2.2⟩
      clear HR HPm HPd HPe
      go_wp2
      first
        | exact ⟨Or.inr (Or.inl ⟨by go_num, HE⟩), by simp [intOf]⟩
        | (go_roundw
           case rel => exact Or.inr (Or.inl ⟨by go_num, HE⟩)
           case measure => simp [intOf])
    have n1 : (p : Int) < (N : Int) := by omega
    have n2 : (0 : Int) ≤ (p : Int) := by omega
    rw [HSv.out] at p6
    obtain ⟨e, he⟩ : ∃ e, (es ++ fs)[p]? = some e := ⟨_, List.getElem?_eq_getElem (by rw [HN.out]; exact hlt)⟩
    have hfe : (outF A)[p - q]? = some e.f := by
      rw [List.getElem?_append_right (by rw [HQ.out]; exact hqp), HQ.out] at he
      rw [← HFs.out, List.getElem?_map, he]; rfl
    have hmem : e.f ∈ outF A := List.mem_of_getElem? hfe
    have hStep : (outF A).take (p + 1 - q) = (outF A).take (p - q) ++ [e.f] := by
      rw [show p + 1 - q = p - q + 1 by omega, List.take_add_one, hfe]; rfl
    obtain ⟨g, c, hg, hce⟩ := sent_at HR.out.1.sent he
    rw [HSv.out] at hg
    injection hg with hg1 hg2 hg3
    subst hg1
    have hby := HR.out.1.bod e (List.mem_of_getElem? he)
    have hfo := HFo.out e.f hmem
    have hfr : e.f.fr = 0 := hfo.fr
    have hft : e.f.tt = 5 := hfo.tt
    have hfx := (HR.out.2.2.e e (List.mem_of_getElem? he)).1 hfr
    obtain ⟨⟨fr, tt, mine, yours, seq, ack, bo⟩, sp, cb⟩ := e
    have hfr' : fr = 0 := hfr
    have hft' : tt = 5 := hft
    subst hfr' hft'
    obtain ⟨nbo, hnbo⟩ : ∃ nbo, bo.length = nbo := ⟨_, rfl⟩
    have hfe2 : feC (⟨⟨0, 5, mine, yours, seq, ack, bo⟩, sp, cb⟩ : Fe) = [.int .i64 0, .int .i64 5, .int .u64 (mine : Int), .int .u64 (yours : Int), .int .u64 (seq : Int), .int .u64 (ack : Int), .slice sp nbo cb] := by unfold feC; rw [hnbo]
    rw [hfe2] at hce
    have y0 : w3.cell? ⟨g, p * 7, none⟩ = some (.int .i64 0) := hce 0 _ rfl
    have y1 : w3.cell? ⟨g, p * 7 + 1, none⟩ = some (.int .i64 5) := hce 1 _ rfl
    have y2 : w3.cell? ⟨g, p * 7 + 2, none⟩ = some (.int .u64 (mine : Int)) := hce 2 _ rfl
    have y3 : w3.cell? ⟨g, p * 7 + 3, none⟩ = some (.int .u64 (yours : Int)) := hce 3 _ rfl
    have y4 : w3.cell? ⟨g, p * 7 + 4, none⟩ = some (.int .u64 (seq : Int)) := hce 4 _ rfl
    have y5 : w3.cell? ⟨g, p * 7 + 5, none⟩ = some (.int .u64 (ack : Int)) := hce 5 _ rfl
    have y6 : w3.cell? ⟨g, p * 7 + 6, none⟩ = some (.slice sp nbo cb) := hce 6 _ rfl
    have HH := hide (hearP1 w w3 K3 pb W M l0 l1 b0 b1 sv' s0 s3 (tickL A) (hearAll B ((outF A).take (p - q))) ra r3 S S3 (es ++ fs) (k + 1 + (p - q)) HR.out.1 HR.out.2.1 (by have := HNf.out; omega) mine yours seq ack nbo cb sp bo hnbo hby hfo)
    have HPx := hide (fun S' hs => HR.out.2.2.hear1 (S' := S') HR.out.2.1 hfo hfx hs)
    have HSt := hide hStep
    clear he hfe hmem hStep hg2 hg3 hby hfo hfr hft hfx hnbo hfe2 hce HR HPm HPd HPe
    go_wp2_with fail
    refine HH.out.mono ?_
    rintro e w4 ⟨rfl, K4, s4, r4, S4, hp4, hd4, hs4⟩
    have he4 := HPx.out S4 hs4
    have hlk : hearAll B ((outF A).take (p + 1 - q)) = hearN (hearAll B ((outF A).take (p - q))) mine yours seq ack := by
      rw [HSt.out]; unfold hearAll; rw [List.foldl_append]; rfl
    rw [← hlk] at hp4 hd4 he4
    have hkk : k + 1 + (p - q) + 1 = k + 1 + (p + 1 - q) := by omega
    rw [hkk] at hd4
    have HR4 := hide (And.intro hp4 (And.intro hd4 he4))
    clear hp4 hd4 he4 hs4 hlk hkk HH HPx HSt y0 y1 y2 y3 y4 y5 y6
    go_wp2
    first
      | exact ⟨⟨p + 1, K4, s4, r4, S4, by omega, by omega, by go_num, HR4⟩, by simp [intOf]; omega⟩
      | (go_roundw
         case rel => exact ⟨p + 1, K4, s4, r4, S4, by omega, by omega, by go_num, HR4⟩
         case measure => simp [intOf]; omega)
  · rename World => wq
    obtain ⟨K, sv, s0, s1, ra, rb, S, T, es, hp, hd, hpe⟩ := HSt1.out
    obtain ⟨sa, sc, hsv, -, -⟩ := hp.sent.form
    obtain ⟨q, hq⟩ : ∃ q, es.length = q := ⟨_, rfl⟩
    rw [hq] at hsv
    have HT := hide (tickP1 w wq K pb W M l0 l1 b0 b1 sv s0 s1 (tickL A) (turnB1 A B) ra rb S T es (k + 6) hp hd (by omega))
    have HFo := hide (fun f (hf : f ∈ outF (turnB1 A B)) => (hd.b.outs (by omega) (by omega) (by omega) f hf).1)
    have HOl := hide (out_len (turnB1 A B) (by have := hd.wb; have := hd.w1; omega))
    rw [hd.wb] at HOl
    have HD0 := hide hd
    have HE0 := hide hpe
    have hql : q ≤ 100000 := by rw [← hq]; have := hd.el; omega
    obtain ⟨p0, p1, p2, p3, p4, p5, p6, p7, p8, pf, hpb⟩ := hp.pk.cells
    rw [hsv] at p6
    have HQ := hide hq
    have hW5 : W ≤ 5 := hd.w1.2
    clear hp hd hpe hsv hq
    go_wp2_with fail
    refine HT.out.mono ?_
    rintro e w2 ⟨rfl, sv', K2, fs, hfs, hpm⟩
    have HPd := hide (HD0.out.tick1 (by omega) hfs)
    have HPe := hide (HE0.out.tick1 HD0.out hfs)
    have HPm := hide hpm
    have HFs := hide hfs
    obtain ⟨sa2, sc2, hsv2, -, -⟩ := hpm.sent.form
    obtain ⟨N, hN⟩ : ∃ N, (es ++ fs).length = N := ⟨_, rfl⟩
    rw [hN] at hsv2
    obtain ⟨f, hf⟩ : ∃ f, fs.length = f := ⟨_, rfl⟩
    have hNf : N = q + f := by rw [← hN, List.length_append, HQ.out, hf]
    have hf5 : f ≤ 5 := by
      have h1 := HOl.out
      have h2 : fs.length = (outF (turnB1 A B)).length := by rw [← hfs, List.length_map]
      omega
    have HN := hide hN
    have HF := hide hf
    have HNf := hide hNf
    have hqN : q ≤ N := by omega
    have hNl : N ≤ 100005 := by omega
    have HSv := hide hsv2
    clear p0 p1 p2 p3 p4 p5 p6 p7 p8 pf hpb hpm hfs HT HD0 HE0 hsv2 hN hf hNf
    obtain ⟨p0, p1, p2, p3, p4, p5, p6, p7, p8, pf, hpb⟩ := HPm.out.pk.cells
    rw [HSv.out] at p6
    go_wp2
    go_loopw [6] (fun iv w' => ∃ (p : Nat) (K' : Knd) (s' r' : Value) (S' : List Sm), q ≤ p ∧ p ≤ N ∧ iv = .int .i64 (p : Int) ∧ Hid (Pm w w' K' pb W M l0 l1 b0 b1 sv' s' s1 (hearAll (tickL A) ((outF (turnB1 A B)).take (p - q))) (tickL (turnB1 A B)) r' rb S' T (es ++ fs) ∧ Pd W M l0 l1 (hearAll (tickL A) ((outF (turnB1 A B)).take (p - q))) (tickL (turnB1 A B)) S' T (es ++ fs) ((k + 6) + 1 + (p - q)) ∧ Pe W M l0 l1 (hearAll (tickL A) ((outF (turnB1 A B)).take (p - q))) (tickL (turnB1 A B)) S' T (es ++ fs))) (fun iv _ => N - (intOf iv).toNat)
    case atStart =>
      refine ⟨q, K2, s0, ra, S, Nat.le_refl _, hqN, rfl, ?_⟩
      have e0 : q - q = 0 := Nat.sub_self q
      show _ ∧ _
      rw [e0, List.take_zero]
      exact ⟨HPm.out, HPd.out, HPe.out⟩
    case round =>
    obtain ⟨p, K3, s3, r3, S3, hqp, hpN, rfl, HR⟩ := hrel
    rename World => w3
    clear p0 p1 p2 p3 p4 p5 p6 p7 p8 pf hpb
    obtain ⟨p0, p1, p2, p3, p4, p5, p6, p7, p8, pf, hpb⟩ := HR.out.1.pk.cells
    by_cases hlt : p < N
    rotate_left
    · obtain rfl : p = N := by omega
      have n1 : ¬ (p : Int) < (p : Int) := by omega
      have HE : Hid (Pst w w3 pb W M l0 l1 b0 b1 (turnA A B) (turnB A B) ((k + 6) + 6)) := by
        have h1 := HR.out
        have e1 : (outF (turnB1 A B)).take (p - q) = outF (turnB1 A B) := List.take_of_length_le (by
          have h2 : fs.length = (outF (turnB1 A B)).length := by rw [← HFs.out, List.length_map]
          have h3 := HF.out
          have h4 := HNf.out
          omega)
        rw [e1] at h1
        exact ⟨_, _, _, _, _, _, _, _, _, h1.1, h1.2.1.le (by have := HNf.out; omega), h1.2.2⟩
      clear HR HPm HPd HPe
      go_wp2
      first
        | exact ⟨Or.inr (Or.inr ⟨by go_num, by rw [show k + 12 = k + 6 + 6 by omega]; exact HE⟩), by simp [intOf]⟩
        | (go_roundw
           case rel => exact Or.inr (Or.inr ⟨by go_num, by rw [show k + 12 = k + 6 + 6 by omega]; exact HE⟩)
           case measure => simp [intOf])
    have n1 : (p : Int) < (N : Int) := by omega
    have n2 : (0 : Int) ≤ (p : Int) := by omega
    rw [HSv.out] at p6
    obtain ⟨e, he⟩ : ∃ e, (es ++ fs)[p]? = some e := ⟨_, List.getElem?_eq_getElem (by rw [HN.out]; exact hlt)⟩
    have hfe : (outF (turnB1 A B))[p - q]? = some e.f := by
      rw [List.getElem?_append_right (by rw [HQ.out]; exact hqp), HQ.out] at he
      rw [← HFs.out, List.getElem?_map, he]; rfl
    have hmem : e.f ∈ outF (turnB1 A B) := List.mem_of_getElem? hfe
    have hStep : (outF (turnB1 A B)).take (p + 1 - q) = (outF (turnB1 A B)).take (p - q) ++ [e.f] := by
      rw [show p + 1 - q = p - q + 1 by omega, List.take_add_one, hfe]; rfl
    obtain ⟨g, c, hg, hce⟩ := sent_at HR.out.1.sent he
    rw [HSv.out] at hg
    injection hg with hg1 hg2 hg3
    subst hg1
    have hby := HR.out.1.bod e (List.mem_of_getElem? he)
    have hfo := HFo.out e.f hmem
    have hfr : e.f.fr = 5 := hfo.fr
    have hft : e.f.tt = 0 := hfo.tt
    have hfx := (HR.out.2.2.e e (List.mem_of_getElem? he)).2 hfr
    obtain ⟨⟨fr, tt, mine, yours, seq, ack, bo⟩, sp, cb⟩ := e
    have hfr' : fr = 5 := hfr
    have hft' : tt = 0 := hft
    subst hfr' hft'
    obtain ⟨nbo, hnbo⟩ : ∃ nbo, bo.length = nbo := ⟨_, rfl⟩
    have hfe2 : feC (⟨⟨5, 0, mine, yours, seq, ack, bo⟩, sp, cb⟩ : Fe) = [.int .i64 5, .int .i64 0, .int .u64 (mine : Int), .int .u64 (yours : Int), .int .u64 (seq : Int), .int .u64 (ack : Int), .slice sp nbo cb] := by unfold feC; rw [hnbo]
    rw [hfe2] at hce
    have y0 : w3.cell? ⟨g, p * 7, none⟩ = some (.int .i64 5) := hce 0 _ rfl
    have y1 : w3.cell? ⟨g, p * 7 + 1, none⟩ = some (.int .i64 0) := hce 1 _ rfl
    have y2 : w3.cell? ⟨g, p * 7 + 2, none⟩ = some (.int .u64 (mine : Int)) := hce 2 _ rfl
    have y3 : w3.cell? ⟨g, p * 7 + 3, none⟩ = some (.int .u64 (yours : Int)) := hce 3 _ rfl
    have y4 : w3.cell? ⟨g, p * 7 + 4, none⟩ = some (.int .u64 (seq : Int)) := hce 4 _ rfl
    have y5 : w3.cell? ⟨g, p * 7 + 5, none⟩ = some (.int .u64 (ack : Int)) := hce 5 _ rfl
    have y6 : w3.cell? ⟨g, p * 7 + 6, none⟩ = some (.slice sp nbo cb) := hce 6 _ rfl
    have HH := hide (hearP0 w w3 K3 pb W M l0 l1 b0 b1 sv' s3 s1 (hearAll (tickL A) ((outF (turnB1 A B)).take (p - q))) (tickL (turnB1 A B)) r3 rb S3 T (es ++ fs) ((k + 6) + 1 + (p - q)) HR.out.1 HR.out.2.1 (by have := HNf.out; omega) mine yours seq ack nbo cb sp bo hnbo hby hfo)
    have HPx := hide (fun S' hs => HR.out.2.2.hear0 (S' := S') HR.out.2.1 hfo hfx hs)
    have HSt := hide hStep
    clear he hfe hmem hStep hg2 hg3 hby hfo hfr hft hfx hnbo hfe2 hce HR HPm HPd HPe
    go_wp2_with fail
    refine HH.out.mono ?_
    rintro e w4 ⟨rfl, K4, s4, r4, S4, hp4, hd4, hs4⟩
    have he4 := HPx.out S4 hs4
    have hlk : hearAll (tickL A) ((outF (turnB1 A B)).take (p + 1 - q)) = hearN (hearAll (tickL A) ((outF (turnB1 A B)).take (p - q))) mine yours seq ack := by
      rw [HSt.out]; unfold hearAll; rw [List.foldl_append]; rfl
    rw [← hlk] at hp4 hd4 he4
    have hkk : (k + 6) + 1 + (p - q) + 1 = (k + 6) + 1 + (p + 1 - q) := by omega
    rw [hkk] at hd4
    have HR4 := hide (And.intro hp4 (And.intro hd4 he4))
    clear hp4 hd4 he4 hs4 hlk hkk HH HPx HSt y0 y1 y2 y3 y4 y5 y6
    go_wp2
    first
      | exact ⟨⟨p + 1, K4, s4, r4, S4, by omega, by omega, by go_num, HR4⟩, by simp [intOf]; omega⟩
      | (go_roundw
         case rel => exact ⟨p + 1, K4, s4, r4, S4, by omega, by omega, by go_num, HR4⟩
         case measure => simp [intOf]; omega)
  · go_wp2
    go_ret
    exact ⟨rfl, HSt2.out⟩
end Go.Proofs.YtbcpoejpbhpcbaaDoor
