/-
  The document's events of a text; LinesReads. Condition of the law: the words, the table of powers of ten and the two errors are as their initialisers lay them.
-/
import Derived.Test.YtkefdbnnfcfmjaaDoorRdR
import Derived.Test.YtkefdbnnfcfmjaaDoorRdd
import Derived.Test.YtkefdbnnfcfmjaaDoorEsS
import Derived.WalkKit
import Derived.ProofKit
import Derived.Handy
import Derived.LoopTactic
import Derived.Below
import Derived.Laws.BitsAllLaws
import Derived.RegionTactic
import Derived.Deep.RegionHeld3
import Derived.Deep.DrawnRows
import Derived.Deep.AppendLies
import Derived.Laws.OwnMore
import Derived.Deep.Onto
import Derived.Deep.QuietTactic
import Derived.BigQuiet
namespace Go.Proofs.YtkefdbnnfcfmjaaDoor.Walks
open Go.RowKit
open Go.Proofs.YtkefdbnnfcfmjaaDoor.Plain
set_option linter.unusedVariables false
set_option linter.unusedSimpArgs false
attribute [local go_sem ↓] Go.wp_at_zero Go.wp_at_succ

/-- What has been read up to a place. -/
def Rds (T : List UInt8) (out : List Ev) (f i : Nat) : Prop :=
  (i ≤ T.length → f ≤ i ∧ (10 : UInt8) ∉ (T.drop f).take (i - f) ∧ readF 0 [] (lns T) = readF out.length out (lns (T.drop f))) ∧ (T.length < i → readF 0 [] (lns T) = .inr out) ∧ out.length ≤ 4000

theorem rds_zero (T : List UInt8) : Rds T [] 0 0 := ⟨fun _ => ⟨Nat.le_refl _, by simp, by simp⟩, fun h => by omega, by simp⟩

theorem rds_on {T : List UInt8} {out : List Ev} {f i : Nat} (h : Rds T out f i) (hi : i < T.length) (hc : T[i] ≠ 10) : Rds T out f (i + 1) := by
  obtain ⟨h1, h2, h3⟩ := h.1 (by omega)
  refine ⟨fun _ => ⟨by omega, ?_, h3⟩, fun h => by omega, h.2.2⟩
  rw [take_on hi h1, List.mem_append]
  rintro (e | e)
  · exact h2 e
  · exact hc (List.mem_singleton.1 e).symm

theorem rds_end {T : List UInt8} {out : List Ev} (h : Rds T out T.length T.length) : Rds T out T.length (T.length + 1) := by
  obtain ⟨h1, h2, h3⟩ := h.1 (Nat.le_refl _)
  refine ⟨fun h => by omega, fun _ => ?_, h.2.2⟩
  rw [h3, List.drop_length]
  rfl

/-- The line that ends here. -/
theorem rds_line {T : List UInt8} {out : List Ev} {f i : Nat} (h : Rds T out f i) (hi : i < T.length) (hc : T[i] = 10) :
    readF 0 [] (lns T) = if 4000 ≤ out.length then .inl (9, out.length) else match docE ((T.drop f).take (i - f)) with
      | none => .inl (3, out.length)
      | some e => readF (out.length + 1) (out ++ [e]) (lns (T.drop (i + 1))) := by
  obtain ⟨h1, h2, h3⟩ := h.1 (by omega)
  have hs := drop_split T h1
  have hd : T.drop i = 10 :: T.drop (i + 1) := by rw [List.drop_eq_getElem_cons hi, hc]
  rw [hd] at hs
  have hl : lns (T.drop f) = ((T.drop f).take (i - f) ++ [10]) :: lns (T.drop (i + 1)) := by
    conv => lhs; rw [hs]
    rw [lns_cut _ _ h2]
  rw [h3, hl, readF, doc_is]
  by_cases h4 : 4000 ≤ out.length
  · rw [if_pos h4, if_pos h4]
  · rw [if_neg h4, if_neg h4]
    cases evP ((T.drop f).take (i - f) ++ [10]) <;> rfl

theorem rds_last {T : List UInt8} {out : List Ev} {f : Nat} (h : Rds T out f T.length) (hf : f ≠ T.length) : readF 0 [] (lns T) = if 4000 ≤ out.length then .inl (9, out.length) else .inl (3, out.length) := by
  obtain ⟨h1, h2, h3⟩ := h.1 (Nat.le_refl _)
  have ht : (T.drop f).take (T.length - f) = T.drop f := List.take_of_length_le (by simp)
  rw [ht] at h2
  have hne : T.drop f ≠ [] := fun e => by
    have := List.drop_eq_nil_iff.1 e
    omega
  rw [h3, lns_last _ hne h2, readF, evP_feed h2]

theorem rds_next {T : List UInt8} {out : List Ev} {f i : Nat} {e : Ev} (h : Rds T out f i) (hi : i < T.length) (hc : T[i] = 10) (h4 : out.length ≠ 4000) (he : docE ((T.drop f).take (i - f)) = some e) : Rds T (out ++ [e]) (i + 1) (i + 1) := by
  have hl := rds_line h hi hc
  have h4' := h.2.2
  rw [if_neg (by omega), he] at hl
  refine ⟨fun _ => ⟨Nat.le_refl _, by simp, ?_⟩, fun h => by omega, by simp; omega⟩
  rw [hl]
  simp

theorem doc_kind_pos {l : List UInt8} {e : Ev} (h : docE l = some e) : 1 ≤ e.kind ∧ e.kind ≤ 7 := by
  have h0 := (doc_sound h).1
  rcases may_cases h0 with ⟨n, _, _, rfl⟩ | ⟨k, s, g, hk, _, _, _, _, rfl⟩ | ⟨s, g, b, _, _, _, _, rfl⟩ | ⟨r, b, w, _, _, _, _, _, _, rfl⟩ | ⟨r, b, _, _, _, _, rfl⟩ | rfl
  · simp
  · rcases hk with rfl | rfl <;> simp
  all_goals simp

set_option maxHeartbeats 16000000 in
set_option maxRecDepth 100000 in
theorem eventsRead_any (T : List UInt8) (w : World) : Calls Tryd.prog 14 #[.string ⟨T.toArray⟩] w (ReadPost T w) := by
  obtain ⟨s, hs⟩ : ∃ s : ByteArray, s = ⟨T.toArray⟩ := ⟨_, rfl⟩
  have hsz : s.size = T.length := by rw [hs]; simp [ByteArray.size]
  have hix : Hid (∀ (k : Nat) (hk : k < T.length) (W : World), (Instr.index 9 (.string s) (.int .i64 (k : Int))).run Tryd.prog W = .ok (.int .u8 (T[k].toNat : Int)) W) := by rw [hs]; exact str_index T
  have hcut : Hid (∀ (f i : Nat), f ≤ i → i ≤ T.length → ∀ W : World, (Instr.sliceAt 9 (.string s) (some (.int .i64 (f : Int))) (some (.int .i64 (i : Int))) none).run Tryd.prog W = .ok (.string ⟨((T.drop f).take (i - f)).toArray⟩) W) := by rw [hs]; exact fun f i h1 h2 => str_cut T h1 h2
  rw [← hs]
  clear hs
  by_cases hbig : 200000 < T.length
  · have hb' : (200000 : Int) < (T.length : Int) := by omega
    have HR : Hid (readT T = .inl (1, 0)) := by unfold Hid readT; rw [if_pos hbig]
    clear hbig
    go_enter Tryd.func14, Tryd.ntmps14
    go_wp2
    refine bodyPost_ret (v := .tuple #[.slice none 0 0, .int .i64 0, .int .i64 1]) (by simp [results, Tryd.results14, go_sem]) rfl ?_
    exact ⟨Below.refl _ _, .inl ⟨1, 0, HR.out, rfl⟩⟩
  · have hb' : ¬ (200000 : Int) < (T.length : Int) := by omega
    have HR : Hid (readT T = readF 0 [] (lns T)) := by unfold Hid readT; rw [if_neg hbig]
    have HL : Hid (T.length ≤ 200000) := by unfold Hid; omega
    clear hbig
    go_enter Tryd.func14, Tryd.ntmps14
    go_wp2
    go_loopw [5, 6, 7] (fun v f i wr => ∃ (out : List Ev) (m fn k c : Nat) (p : Option Addr), v = .slice p m c ∧ f = .int .i64 (fn : Int) ∧ i = .int .i64 (k : Int) ∧ k ≤ T.length + 1 ∧ m ≤ 4000 ∧ Hid (m = out.length ∧ Rds T out fn k ∧ wr.ownsRow w.heap.size 34 8 (.slice p m c) m (Rv.rv evV out) ∧ Below w.heap.size w wr)) (fun _ _ i _ => T.length + 1 - (intOf i).toNat)
    case atStart => exact ⟨[], 0, 0, 0, 0, none, rfl, rfl, rfl, Nat.zero_le _, by omega, rfl, rds_zero T, World.ownsRow_nil _ _ _ _, Below.refl _ _⟩
    case round =>
      obtain ⟨out, m, f, k, c, p, rfl, rfl, rfl, hk, hm4, HI⟩ := hrel
      by_cases hle : k ≤ T.length
      · have hkI : (k : Int) ≤ (T.length : Int) := by omega
        have hkd : decide ((k : Int) ≤ (T.length : Int)) = true := decide_eq_true hkI
        have hfk := (HI.out.2.1.1 hle).1
        have hct := hcut.out f k hfk hle
        by_cases hA : k < T.length ∧ ∀ h : k < T.length, T[k] ≠ 10
        · have hlt : (k : Int) < (T.length : Int) := by omega
          have hik := hix.out k hA.1
          have hc10 : ((T[k].toNat : Int) != 10) = true := by
            rw [bne_iff_ne]
            exact fun e => hA.2 hA.1 (by apply UInt8.toNat_inj.1; have : ((10 : UInt8).toNat : Int) = 10 := rfl; omega)
          have HN : Hid _ := rds_on HI.out.2.1 hA.1 (hA.2 hA.1)
          have HLt : Hid _ := hA.1
          generalize T[k].toNat = cc at *
          clear hA
          go_wp2
          go_roundw
          case rel => exact ⟨out, m, f, k + 1, c, p, rfl, rfl, by go_num, by have := HLt.out; omega, hm4, HI.out.1, HN.out, HI.out.2.2⟩
          case measure => simp [intOf]; omega
        · by_cases hE : k = T.length ∧ f = T.length
          · obtain ⟨hke, hfe⟩ := hE
            have hlt : ¬ (k : Int) < (T.length : Int) := by omega
            have hk2 : ((k : Int) == (T.length : Int)) = true := by rw [hke]; simp
            have hf2 : ((f : Int) == (T.length : Int)) = true := by rw [hfe]; simp
            have HN : Hid (Rds T out f (k + 1)) := by
              have h1 := HI.out.2.1
              rw [hke, hfe] at h1
              unfold Hid
              rw [hke, hfe]
              exact rds_end h1
            clear hke hfe hA
            go_wp2
            go_roundw
            case rel => exact ⟨out, m, f, k + 1, c, p, rfl, rfl, by go_num, by omega, hm4, HI.out.1, HN.out, HI.out.2.2⟩
            case measure => simp [intOf]; omega
          · have hnA : ∀ hlt : k < T.length, T[k] = 10 := fun hlt => by
              by_cases e : T[k] = 10
              · exact e
              · exact absurd ⟨hlt, fun _ => e⟩ hA
            have hml : m ≤ 4000 := hm4
            by_cases h4 : m = 4000
            · have hm4' : ((m : Int) == 4000) = true := by rw [h4]; rfl
              have HX : Hid (readT T = .inl (9, 4000)) := by
                unfold Hid
                rw [HR.out]
                have hol : out.length = 4000 := by rw [← HI.out.1]; exact h4
                by_cases hlt : k < T.length
                · rw [rds_line HI.out.2.1 hlt (hnA hlt), if_pos (by omega), hol]
                · have hke : k = T.length := by omega
                  have h1 := HI.out.2.1
                  rw [hke] at h1
                  rw [rds_last h1 (fun e => hE ⟨hke, e⟩), if_pos (by omega), hol]
              by_cases hlt : k < T.length
              · have hltI : (k : Int) < (T.length : Int) := by omega
                have hik := hix.out k hlt
                rw [hnA hlt] at hik
                have hik : ∀ W : World, (Instr.index 9 (.string s) (.int .i64 (k : Int))).run Tryd.prog W = .ok (.int .u8 10) W := hik
                have hk2 : ((k : Int) == (T.length : Int)) = false := beq_eq_false_iff_ne.2 (by omega)
                clear hnA hA hE
                clear h4
                go_wp2
                refine bodyPost_ret (v := .tuple #[.slice none 0 0, .int .i64 4000, .int .i64 9]) (by simp [results, Tryd.results14, go_sem]) rfl ?_
                exact ⟨HI.out.2.2.2, .inl ⟨9, 4000, HX.out, rfl⟩⟩
              · have hltI : ¬ (k : Int) < (T.length : Int) := by omega
                have hk2 : ((k : Int) == (T.length : Int)) = true := by rw [show k = T.length by omega]; simp
                have hf2 : ((f : Int) == (T.length : Int)) = false := beq_eq_false_iff_ne.2 (fun e => hE ⟨by omega, by omega⟩)
                clear hnA hA hE h4
                go_wp2
                refine bodyPost_ret (v := .tuple #[.slice none 0 0, .int .i64 4000, .int .i64 9]) (by simp [results, Tryd.results14, go_sem]) rfl ?_
                exact ⟨HI.out.2.2.2, .inl ⟨9, 4000, HX.out, rfl⟩⟩
            · have hm4' : ((m : Int) == 4000) = false := beq_eq_false_iff_ne.2 (by omega)
              by_cases hlt : k < T.length
              · have hltI : (k : Int) < (T.length : Int) := by omega
                have hik := hix.out k hlt
                rw [hnA hlt] at hik
                have hik : ∀ W : World, (Instr.index 9 (.string s) (.int .i64 (k : Int))).run Tryd.prog W = .ok (.int .u8 10) W := hik
                have hk2 : ((k : Int) == (T.length : Int)) = false := beq_eq_false_iff_ne.2 (by omega)
                have HT : Hid _ := hnA hlt
                clear hA hE
                have HN : Hid (readT T = match docE ((T.drop f).take (k - f)) with
                    | none => .inl (3, m)
                    | some e => readF (m + 1) (out ++ [e]) (lns (T.drop (k + 1)))) := by
                  unfold Hid
                  rw [HR.out, rds_line HI.out.2.1 hlt HT.out, if_neg (by rw [← HI.out.1]; omega), ← HI.out.1]
                have HNx : Hid (∀ e, docE ((T.drop f).take (k - f)) = some e → Rds T (out ++ [e]) (k + 1) (k + 1)) := fun e he => rds_next HI.out.2.1 hlt HT.out (by rw [← HI.out.1]; exact h4) he
                have hxl : ((T.drop f).take (k - f)).length ≤ 200000 := by rw [List.length_take, List.length_drop]; have := HL.out; omega
                have HLE : Hid _ := lineEvent_any ((T.drop f).take (k - f)) hxl wr
                generalize (T.drop f).take (k - f) = x at *
                clear hxl
                go_wp2_with fail
                refine Calls.mono HLE.out ?_
                rintro r w1 ⟨e, he, rfl, hb1⟩
                have hB1 : Below w.heap.size w w1 := HI.out.2.2.2.trans (hb1.mono HI.out.2.2.2.size)
                obtain ⟨w2, hw2⟩ : ∃ w2, w2 = w1.alloc (.cells #[.int .i64 e.kind, .int .i64 e.key, .int .i64 e.slot, .int .i64 e.gen, .bool e.good, .int .i64 e.req, .int .i64 e.be, .int .i64 e.wt] 34) := ⟨_, rfl⟩
                have hE2 : EvAt w2 w1.heap.size e := by rw [hw2]; exact heap_new w1 _
                have hb2 : Below w1.heap.size w1 w2 := by rw [hw2]; exact (Below.refl _ _).alloc (Nat.le_refl _) _
                have hB2 : Below w.heap.size w w2 := hB1.trans (hb2.mono hB1.size)
                obtain ⟨q0, q1, q2, q3, q4, q5, q6, q7, _, _, _, _, _, _, _, _, hql⟩ := ev_facts hE2
                rcases he with he | ⟨he, hez⟩
                · have hkp := doc_kind_pos he
                  have hk0 : (e.kind == 0) = false := beq_eq_false_iff_ne.2 (by omega)
                  have ho2 := own_kept (own_kept HI.out.2.2.1 hb1) hb2
                  obtain ⟨g2, c4, w4, hr, ho4, hg4, hlies⟩ := Rv.append_oneV ev8 ev1 (by decide) Tryd.underlying22 infoEv rfl (w := w2) ho2 hB2.size 22 e #[.int .i64 e.kind, .int .i64 e.key, .int .i64 e.slot, .int .i64 e.gen, .bool e.good, .int .i64 e.req, .int .i64 e.be, .int .i64 e.wt] rfl (by omega) (by unfold maxLen; omega)
                  have hB4 : Below w.heap.size w w4 := hB2.grown hg4 hB2.size (fun j hj => (ho2.lt j hj).1)
                  rw [hw2, World.size_alloc] at hr
                  have HA4 : Hid (_ ∧ _ ∧ _ ∧ _) := ⟨hr, ho4, hB4, HNx.out e he⟩
                  have HLt : Hid _ := hlt
                  clear hr ho4 hB4 hg4 hlies ho2 hB2 hb2 hE2 hB1 hb1 he hkp HN HNx
                  clear q0 q1 q2 q3 q4 q5 q6 q7 hql hw2
                  go_wp2_with (at_builtin; (with_reducible refine Rv.wpList_append_eq rfl _ _ 22 rfl (.slice p m c) (.slice (some ⟨w1.heap.size + 1, 0, none⟩) 1 1) (.slice (some ⟨g2, 0, none⟩) (m + 1) c4) w4 ?hs ?hx ?hr ?_); (case hs => rfl); (case hx => rfl); (case hr => exact HA4.out.1))
                  go_wp2
                  go_roundw
                  case rel => exact ⟨out ++ [e], m + 1, k + 1, k + 1, c4, some ⟨g2, 0, none⟩, rfl, by go_num, by go_num, by have := HLt.out; omega, by omega, by rw [HI.out.1]; simp, HA4.out.2.2.2, HA4.out.2.1, HA4.out.2.2.1⟩
                  case measure => simp [intOf]; omega
                · have hd := HN.out
                  rw [he] at hd
                  have hk0 : (e.kind == 0) = true := by rw [hez]; rfl
                  have HD : Hid (_ ∧ _) := ⟨hd, hB2⟩
                  clear hd he hez HN HNx hB2 hb2 hE2 hB1 hb1
                  go_wp2_with fail
                  rw [← hw2]
                  clear hw2
                  go_wp2
                  refine bodyPost_ret (v := .tuple #[.slice none 0 0, .int .i64 (m : Int), .int .i64 3]) (by simp [results, Tryd.results14, go_sem]) rfl ?_
                  exact ⟨HD.out.2, .inl ⟨3, m, HD.out.1, rfl⟩⟩
              · have hltI : ¬ (k : Int) < (T.length : Int) := by omega
                have hk2 : ((k : Int) == (T.length : Int)) = true := by rw [show k = T.length by omega]; simp
                have hf2 : ((f : Int) == (T.length : Int)) = false := beq_eq_false_iff_ne.2 (fun e => hE ⟨by omega, by omega⟩)
                have HN : Hid (readT T = .inl (3, m)) := by
                  unfold Hid
                  have hke : k = T.length := by omega
                  have h1 := HI.out.2.1
                  rw [hke] at h1
                  rw [HR.out, rds_last h1 (fun e => hE ⟨hke, e⟩), if_neg (by rw [← HI.out.1]; omega), ← HI.out.1]
                have hxl : ((T.drop f).take (k - f)).length ≤ 200000 := by rw [List.length_take, List.length_drop]; have := HL.out; omega
                have HLE : Hid _ := lineEvent_any ((T.drop f).take (k - f)) hxl wr
                generalize (T.drop f).take (k - f) = x at *
                clear hxl hnA hA hE
                go_wp2_with fail
                refine Calls.mono HLE.out ?_
                rintro r w1 ⟨e, _, rfl, hb1⟩
                have hB1 : Below w.heap.size w w1 := HI.out.2.2.2.trans (hb1.mono HI.out.2.2.2.size)
                obtain ⟨w2, hw2⟩ : ∃ w2, w2 = w1.alloc (.cells #[.int .i64 e.kind, .int .i64 e.key, .int .i64 e.slot, .int .i64 e.gen, .bool e.good, .int .i64 e.req, .int .i64 e.be, .int .i64 e.wt] 34) := ⟨_, rfl⟩
                have hE2 : EvAt w2 w1.heap.size e := by rw [hw2]; exact heap_new w1 _
                have hb2 : Below w1.heap.size w1 w2 := by rw [hw2]; exact (Below.refl _ _).alloc (Nat.le_refl _) _
                have hB2 : Below w.heap.size w w2 := hB1.trans (hb2.mono hB1.size)
                obtain ⟨q0, q1, q2, q3, q4, q5, q6, q7, _, _, _, _, _, _, _, _, hql⟩ := ev_facts hE2
                have HD : Hid _ := hB2
                clear hB2 hb2 hE2 hB1 hb1
                by_cases hk0 : (e.kind == 0) = true
                · go_wp2_with fail
                  rw [← hw2]
                  clear hw2
                  go_wp2
                  refine bodyPost_ret (v := .tuple #[.slice none 0 0, .int .i64 (m : Int), .int .i64 3]) (by simp [results, Tryd.results14, go_sem]) rfl ?_
                  exact ⟨HD.out, .inl ⟨3, m, HN.out, rfl⟩⟩
                · have hk1 : (e.kind == 0) = false := by simpa using hk0
                  clear hk0
                  go_wp2_with fail
                  rw [← hw2]
                  clear hw2
                  go_wp2
                  refine bodyPost_ret (v := .tuple #[.slice none 0 0, .int .i64 (m : Int), .int .i64 3]) (by simp [results, Tryd.results14, go_sem]) rfl ?_
                  exact ⟨HD.out, .inl ⟨3, m, HN.out, rfl⟩⟩
      · have hkI : ¬ (k : Int) ≤ (T.length : Int) := by omega
        have hout := HI.out.2.1.2.1 (by omega)
        have HO : Hid (_ ∧ _) := ⟨HR.out.trans hout, HI.out.1⟩
        clear hout hk
        go_wp2
        refine bodyPost_ret (v := .tuple #[.slice p m c, .int .i64 0, .int .i64 0]) (by simp [results, Tryd.results14, go_sem]) rfl ?_
        exact ⟨HI.out.2.2.2, .inr ⟨out, .slice p m c, HO.out.1, rfl, by rw [← HO.out.2]; exact HI.out.2.2.1⟩⟩

set_option maxHeartbeats 2000000 in
theorem reads_law (s : ByteArray) (w : World) (hG : Gr w) : Calls Tryd.prog 4 #[.string s] w fun r w' => r = .returned (.bool true) ∧ Below w.heap.size w w' := by
  have HG := Lib.hid hG
  clear hG
  have hse : (⟨s.data.toList.toArray⟩ : ByteArray) = s := by obtain ⟨⟨l⟩⟩ := s; rfl
  have HE : Hid (∀ X : World, Calls Tryd.prog 14 #[.string s] X (ReadPost s.data.toList X)) := fun X => by
    have := eventsRead_any s.data.toList X
    rw [hse] at this
    exact this
  clear hse
  go_enter Tryd.func4, Tryd.ntmps4
  go_wp2_with fail
  refine (read_any s w HG.out).mono ?_
  rintro r w1 ⟨hb1, ⟨c, p, hr, rfl⟩ | ⟨l, v, hr, rfl, ho⟩⟩
  · have H1 := Lib.hid (And.intro hr hb1)
    clear hr hb1
    go_wp2_with fail
    refine (HE.out w1).mono ?_
    rintro r w2 ⟨hb2, ⟨c2, p2, hr2, rfl⟩ | ⟨l2, v2, hr2, rfl, ho2⟩⟩
    · rw [H1.out.1] at hr2
      cases hr2
      have H2 := Lib.hid (H1.out.2.trans (hb2.mono H1.out.2.size))
      clear hb2
      have HS := Lib.hid (sameEvents_any (.slice none 0 0) (.slice none 0 0) [] w2 (Rv.rvAt_nil _) (Rv.rvAt_nil _))
      go_wp2_with fail
      refine HS.out.mono ?_
      rintro r w3 ⟨rfl, hb3⟩
      have H3 := Lib.hid (H2.out.trans (hb3.mono H2.out.size))
      clear hb3
      go_wp2
      go_ret
      exact ⟨rfl, H3.out⟩
    · rw [H1.out.1] at hr2
      cases hr2
  · have H1 := Lib.hid (And.intro hr (And.intro hb1 ho))
    clear hr hb1 ho
    go_wp2_with fail
    refine (HE.out w1).mono ?_
    rintro r w2 ⟨hb2, ⟨c2, p2, hr2, rfl⟩ | ⟨l2, v2, hr2, rfl, ho2⟩⟩
    · rw [H1.out.1] at hr2
      cases hr2
    · rw [H1.out.1] at hr2
      cases hr2
      have HS := Lib.hid (sameEvents_any v v2 l w2 (Rv.rvAt_own (own_kept H1.out.2.2 hb2)) (Rv.rvAt_own ho2))
      have H2 := Lib.hid (H1.out.2.1.trans (hb2.mono H1.out.2.1.size))
      clear hb2 ho2
      go_wp2_with fail
      refine HS.out.mono ?_
      rintro r w3 ⟨rfl, hb3⟩
      have H3 := Lib.hid (H2.out.trans (hb3.mono H2.out.size))
      clear hb3
      go_wp2
      go_ret
      exact ⟨rfl, H3.out⟩
end Go.Proofs.YtkefdbnnfcfmjaaDoor.Walks
