/-
  WalPrefix: of any operations (at most 60, of at most 9000 bytes each and 30000 together; where a size of files is right) on a log, behind each crash the records of the log that is opened then are a beginning of all that were appended, with all that were synced, and the first one has the number 0; no condition on the input.
  The frame round the walk is written by the guide's own program for this statement.
-/
import Derived.Test.YtbinmaamebdneaaZGWT
import Derived.Test.YtbinmaamebdneaaRows
import Derived.WalkKit
import Derived.ProofKit
import Derived.OpenShut
import Derived.ShutString
import Derived.ChangeOld
import Derived.Below
namespace Go.Proofs.Ytbinmaamebdneaa.walPrefix
set_option linter.unusedSimpArgs false
set_option linter.unusedVariables false
open Go.ChangeShapes Go.WideShapes Go.ChangeAt Go.RowKit
open Go.ChangeMaps (open_string shut_string)
set_option linter.unusedVariables false

theorem own : ownKnob Try.prog.godebug = none := by kernel_rfl
theorem laidOut : laidOutB Try.prog = true := by kernel_rfl

/-- WHAT THE WALK IS TOLD OF A SLICE OF INTEGERS THAT CAME IN: it is nil; or it leads to a row of 'cap' cells, the numbers 'zs' (the first 'len' are its elements, the rest its spare room), each fitting its kind. -/
def IsRow (k : IntKind) (w : World) (a : Option Addr) (len cap : Nat) (zs : List Int) : Prop :=
  (a = none ∧ len = 0 ∧ cap = 0 ∧ zs = []) ∨
  ∃ x, a = some x ∧ len ≤ cap ∧ cap ≤ maxLen ∧ zs.length = cap ∧ (∀ i, i < zs.length → w.cell? (x.add i) = some (.int k (zs.getD i 0))) ∧ ∀ n ∈ zs, (Lit.int k n).wf = true

open Fm Dsk Wl
set_option maxRecDepth 100000 in
set_option maxHeartbeats 16000000 in
theorem walk (a0 : Int) (v1 : Value) (w : World) (w0 : (Lit.int .i64 a0).wf = true) (w1 : Wl.OpsV w v1) :
    Calls Try.prog 3 #[.int .i64 a0, v1] w fun e w' => e = .returned (.bool true) ∧ Below w.heap.size w w' := by
  obtain ⟨A1, n1, c1, l, rfl, hop, hwf⟩ := w1
  have HOp := hid_ hop
  have HWf := hid_ hwf
  have ha := hid_ (fun W => walive_any W)
  have HLi := hid_ (light_any A1 n1 c1 l w hop)
  have hcap := hop.cap
  have hmax := hop.max
  have hlen0 := hop.len
  clear w0 hop hwf
  by_cases h0 : lightO l = false
  · rw [h0] at HLi
    go_enter Try.func3, Try.ntmps3
    go_wp2_with fail
    (with_reducible refine Calls.mono HLi.out ?_)
    rintro e w1 ⟨rfl, rfl⟩
    go_wp2_with fail
    (with_reducible refine Calls.mono (ha.out _) ?_)
    rintro e w' ⟨rfl, hbel⟩
    go_wp2_with fail
    go_ret
    exact ⟨rfl, hbel⟩
  rw [Bool.not_eq_false] at h0
  have HL60 := hid_ (light_len h0)
  rw [h0] at HLi
  by_cases h2 : a0 < 64
  · go_enter Try.func3, Try.ntmps3
    go_wp2_with fail
    (with_reducible refine Calls.mono HLi.out ?_)
    rintro e w1 ⟨rfl, rfl⟩
    go_wp2_with fail
    (with_reducible refine Calls.mono (ha.out _) ?_)
    rintro e w' ⟨rfl, hbel⟩
    go_wp2_with fail
    go_ret
    exact ⟨rfl, hbel⟩
  by_cases h3 : 1048576 < a0
  · go_enter Try.func3, Try.ntmps3
    go_wp2_with fail
    (with_reducible refine Calls.mono HLi.out ?_)
    rintro e w1 ⟨rfl, rfl⟩
    go_wp2_with fail
    (with_reducible refine Calls.mono (ha.out _) ?_)
    rintro e w' ⟨rfl, hbel⟩
    go_wp2_with fail
    go_ret
    exact ⟨rfl, hbel⟩
  have HNw := hid_ (new_any 1048576 (by decide) (by decide) w)
  rw [show ((1048576 : Nat) : Int) = 1048576 from rfl] at HNw
  have y2 : decide (a0 < 64) = false := decide_eq_false h2
  have y3 : decide ((1048576 : Int) < a0) = false := decide_eq_false h3
  have HM := hid_ (show 64 ≤ a0 ∧ a0 ≤ 1048576 by omega)
  have HLen := hid_ hlen0
  have hn60 : n1 ≤ 60 := by rw [← hlen0]; exact HL60.out
  clear hlen0 h0
  go_enter Try.func3, Try.ntmps3
  go_wp2_with fail
  (with_reducible refine Calls.mono HLi.out ?_)
  rintro e w1 ⟨rfl, rfl⟩
  go_wp2_with fail
  (with_reducible refine Calls.mono HNw.out ?_)
  rintro e wa ⟨rfl, hd, hb⟩
  have HD0 := hid_ (show DkB w.heap.size w wa w.heap.size _ (newD 1048576) from ⟨hd, hb, fun q hq => by omega, Nat.le_refl _⟩)
  have HLk := hid_ (LogOk.new (most := a0) hd.ok rfl rfl)
  have HOq := hid_ (open_any w.heap.size (fun q => q = w.heap.size) (fun _ => False) (newD 1048576) a0 HM.out.1 HM.out.2 0 0 (allAt []) wa hd (HLk.out.disk HM.out.1) (fun _ h => h.elim))
  clear hd hb
  go_wp2_with fail
  (with_reducible refine Calls.mono HOq.out ?_)
  intro e wd hp
  obtain ⟨gl, rfl, hpr⟩ := pr_new HD0.out hp (PSt.of_fast HLk.out (fun _ => rfl) (fun i hi => absurd hi (Nat.not_lt_zero i)) rfl)
  obtain ⟨gd, hgd⟩ : ∃ gd, gd = w.heap.size := ⟨_, rfl⟩
  rw [← hgd] at hpr ⊢
  have HPr := hid_ (show PrS w gl gd (newD 1048576) a0 [] none 0 0 [] [] 0 0 wd from hpr)
  clear hp hgd hpr y2 y3 h2 h3 HOq HNw HD0 HLk HLi
  generalize newD 1048576 = d10 at HPr
  go_wp2_with fail
  go_loopw [7, 9, 10, 11] (fun vw va vf vi wr => ∃ (i gl : Nat) (A : Option Addr) (n c f : Nat) (ls : List (List UInt8)) (d : DiskD) (L : List FS) (s N : Nat), i ≤ n1 ∧ vi = .int .i64 (i : Nat) ∧ vw = .pointer (some ⟨gl, 0, none⟩) ∧ va = .slice A n c ∧ vf = .int .i64 (f : Nat) ∧ Hid (PrS w gl gd d a0 L A n c ls ls s N wr) ∧ Hid (f ≤ s ∧ N ≤ i ∧ n ≤ i)) (fun _ _ _ vi _ => n1 - (intOf vi).toNat)
  case atStart => exact ⟨0, gl, none, 0, 0, 0, [], _, _, 0, 0, Nat.zero_le _, rfl, rfl, rfl, rfl, HPr, hid_ (by omega)⟩
  case round =>
    obtain ⟨i, gl, A, n, c, f, ls, d, L, s, N, hi, rfl, rfl, rfl, rfl, HP, HF⟩ := hrel
    have x5 : (n1 : Int) ≤ 60 := by omega
    by_cases hlt : i < n1
    · have hiL : i < l.length := by rw [HLen.out]; exact hlt
      obtain ⟨g, off, Ab, cb, Ak, ck, hA, ho⟩ := HOp.out.at_ hiL
      have hwf := HWf.out _ (List.getElem_mem hiL)
      subst hA
      have ho2 := ho.below HP.out.below
      have HSb := hid_ ho.sb
      have HSk := hid_ ho.sk
      have hcb := ho.sb.cap
      have hcb2 := ho.sb.max
      obtain ⟨c0, c1, c2, c3, -, -⟩ := ho2
      have hw1 := hwf.n2
      have HC2 := hid_ (fun (W : World) (hb : Below w.heap.size w W) => (hb.cell (p := ⟨g, off + i * 4 + 2, none⟩) (lt_of_cell ho.c2)).trans ho.c2)
      clear ho hwf
      generalize l[i] = op at *
      obtain ⟨kd, nn, bs, kp⟩ := op
      simp only at HSb HSk HC2 hcb c0 c1 c2 c3 hw1
      have x1 : (i : Int) < (n1 : Int) := by omega
      have x2 : (0 : Int) ≤ (i : Int) := by omega
      have HK := hid_ hlt
      have HSz := hid_ HP.out.below.size
      have hAl := HP.out.sls.len
      have HAl := hid_ hAl
      clear hlt hiL hAl
      by_cases k0 : kd = 0
      · subst k0
        have HDn := hid_ HP.out.downs
        cases hdn : d.down
        all_goals rw [hdn] at HDn
        all_goals have HDd := hid_ hdn
        all_goals clear hdn
        all_goals by_cases h8 : 8192 < bs.length
        all_goals try have HC := hid_ (HP.out.large (Ar := Ab) (cr := cb) h8)
        all_goals try have HC := hid_ (HP.out.append HSb.out (show bs.length ≤ 8192 by omega) (by have := HF.out; omega))
        -- up, too large
        · clear h8
          go_wp2_with fail
          (with_reducible refine Calls.mono HDn.out ?_)
          rintro e w3 ⟨rfl, rfl⟩
          go_wp2_with fail
          (with_reducible refine Calls.mono HC.out ?_)
          rintro e w3 ⟨rfl, rfl⟩
          go_wp2_with fail
          go_roundw
          case rel => exact ⟨i + 1, gl, A, n, c, f, ls, d, L, s, N, by have := HK.out; omega, by go_num, rfl, rfl, rfl, HP, hid_ (by have := HF.out; omega)⟩
          case measure => have := HK.out; simp [intOf]; omega
        -- up
        · go_wp2_with fail
          (with_reducible refine Calls.mono HDn.out ?_)
          rintro e w3 ⟨rfl, rfl⟩
          go_wp2_with fail
          (with_reducible refine Calls.mono HC.out ?_)
          rintro e w3 ⟨k, d', L', al', N', rfl, hp, hres⟩
          rw [HDd.out] at hres
          rcases hres with ⟨rfl, rfl, ⟨h9, -⟩ | ⟨-, rfl⟩⟩ | ⟨rfl, rfl, -, hk⟩
          · cases h9
          · have HP3 := hid_ hp
            clear hp h8
            go_wp2_with fail
            go_roundw
            case rel => exact ⟨i + 1, gl, A, n, c, f, _, d', L', s, _, by have := HK.out; omega, by go_num, rfl, rfl, rfl, HP3, hid_ (by have := HF.out; omega)⟩
            case measure => have := HK.out; simp [intOf]; omega
          · obtain ⟨X, F, G, hp⟩ := hp
            obtain ⟨⟨vs, r1, r2, r3⟩, hp⟩ : RecsT w3 (fun q => G q ∨ blockOf A = some q) A n c ls ∧ PrSt w w3 gl gd X F G d' a0 L' A n c ls (ls ++ [bs]) s (N + 1) := ⟨hp.all, hp⟩
            have HRw := hid_ r1
            have HRl := hid_ (And.intro r2 r3)
            have HP3 := hid_ hp
            have q2 : w3.cell? ⟨g, off + i * 4 + 2, none⟩ = some (.slice Ab bs.length cb) := HC2.out w3 hp.lg.below
            have hnb : n ≤ 60 := by have := HF.out; omega
            clear r1 r2 r3 hp h8
            rcases hk with rfl | rfl
            · go_wp2_with (first
                | (at_builtin; refine wpList_T (e := 33) rfl (.tmp 77) (.tmp 83) 32 rfl _ 24 Try.underlying32 info_recs rfl A n c vs rfl (HRw.out.below ((Below.refl _ _).alloc (Nat.le_refl _) _)) w3.heap.size (.slice Ab bs.length cb) rfl rfl (at_new _ _ _) (by omega) (by omega) ?_; intro A4 c4 w4 ht' hg' ha'; have H4 := hid_ (And.intro ht' (And.intro hg' ha')); clear ht' hg' ha')
                | fail)
              have HP4 := hid_ (HP3.out.pushed HRl.out.1 HRl.out.2 HSb.out ((Below.refl _ _).alloc (Nat.le_refl _) _) H4.out.2.1 H4.out.1 H4.out.2.2)
              go_roundw
              case rel => exact ⟨i + 1, gl, A4, n + 1, c4, f, _, d', L', s, N + 1, by have := HK.out; omega, by go_num, rfl, rfl, rfl, HP4, hid_ (by have := HF.out; omega)⟩
              case measure => have := HK.out; simp [intOf]; omega
            · go_wp2_with (first
                | (at_builtin; refine wpList_T (e := 33) rfl (.tmp 77) (.tmp 83) 32 rfl _ 24 Try.underlying32 info_recs rfl A n c vs rfl (HRw.out.below ((Below.refl _ _).alloc (Nat.le_refl _) _)) w3.heap.size (.slice Ab bs.length cb) rfl rfl (at_new _ _ _) (by omega) (by omega) ?_; intro A4 c4 w4 ht' hg' ha'; have H4 := hid_ (And.intro ht' (And.intro hg' ha')); clear ht' hg' ha')
                | fail)
              have HP4 := hid_ (HP3.out.pushed HRl.out.1 HRl.out.2 HSb.out ((Below.refl _ _).alloc (Nat.le_refl _) _) H4.out.2.1 H4.out.1 H4.out.2.2)
              go_roundw
              case rel => exact ⟨i + 1, gl, A4, n + 1, c4, f, _, d', L', s, N + 1, by have := HK.out; omega, by go_num, rfl, rfl, rfl, HP4, hid_ (by have := HF.out; omega)⟩
              case measure => have := HK.out; simp [intOf]; omega
        -- down, too large
        · clear h8
          go_wp2_with fail
          (with_reducible refine Calls.mono HDn.out ?_)
          rintro e w3 ⟨rfl, rfl⟩
          go_wp2_with fail
          (with_reducible refine Calls.mono HC.out ?_)
          rintro e w3 ⟨rfl, rfl⟩
          go_wp2_with fail
          go_roundw
          case rel => exact ⟨i + 1, gl, A, n, c, f, ls, d, L, s, N, by have := HK.out; omega, by go_num, rfl, rfl, rfl, HP, hid_ (by have := HF.out; omega)⟩
          case measure => have := HK.out; simp [intOf]; omega
        -- down
        · go_wp2_with fail
          (with_reducible refine Calls.mono HDn.out ?_)
          rintro e w3 ⟨rfl, rfl⟩
          go_wp2_with fail
          (with_reducible refine Calls.mono HC.out ?_)
          rintro e w3 ⟨k, d', L', al', N', rfl, hp, hres⟩
          rw [HDd.out] at hres
          rcases hres with ⟨rfl, rfl, ⟨-, rfl | rfl⟩ | ⟨h9, -⟩⟩ | ⟨rfl, rfl, h9, hk⟩
          · have HP3 := hid_ hp
            clear hp h8
            go_wp2_with fail
            go_roundw
            case rel => exact ⟨i + 1, gl, A, n, c, f, _, d', L', s, _, by have := HK.out; omega, by go_num, rfl, rfl, rfl, HP3, hid_ (by have := HF.out; omega)⟩
            case measure => have := HK.out; simp [intOf]; omega
          · have HP3 := hid_ hp
            clear hp h8
            go_wp2_with fail
            go_roundw
            case rel => exact ⟨i + 1, gl, A, n, c, f, _, d', L', s, _, by have := HK.out; omega, by go_num, rfl, rfl, rfl, HP3, hid_ (by have := HF.out; omega)⟩
            case measure => have := HK.out; simp [intOf]; omega
          · cases h9
          · cases h9
      have e0 : (kd == 0) = false := beq_eq_false_iff_ne.2 k0
      by_cases k1 : kd = 1
      · subst k1
        have HC := hid_ HP.out.sync
        clear k0
        go_wp2_with fail
        (with_reducible refine Calls.mono HC.out ?_)
        rintro e w3 (⟨-, rfl, rfl⟩ | ⟨-, rfl, d', -, hp⟩)
        · go_wp2_with fail
          go_roundw
          case rel => exact ⟨i + 1, gl, A, n, c, f, ls, d, L, s, N, by have := HK.out; omega, by go_num, rfl, rfl, rfl, HP, hid_ (by have := HF.out; omega)⟩
          case measure => have := HK.out; simp [intOf]; omega
        · have HP3 := hid_ hp
          clear hp
          go_wp2_with fail
          go_roundw
          case rel => exact ⟨i + 1, gl, A, n, c, n, ls, d', L, ls.length, N, by have := HK.out; omega, by go_num, rfl, rfl, rfl, HP3, hid_ (by have := HF.out; have := HAl.out; omega)⟩
          case measure => have := HK.out; simp [intOf]; omega
      have e1 : (kd == 1) = false := beq_eq_false_iff_ne.2 k1
      by_cases k3 : kd = 3
      · subst k3
        have HC := hid_ (HP.out.arm nn hw1)
        clear k0 k1
        go_wp2_with fail
        (with_reducible refine Calls.mono HC.out ?_)
        rintro e w3 ⟨rfl, hp⟩
        have HP3 := hid_ hp
        clear hp
        go_wp2_with fail
        go_roundw
        case rel => exact ⟨i + 1, gl, A, n, c, f, ls, _, L, s, N, by have := HK.out; omega, by go_num, rfl, rfl, rfl, HP3, hid_ (by have := HF.out; omega)⟩
        case measure => have := HK.out; simp [intOf]; omega
      have e3 : (kd == 3) = false := beq_eq_false_iff_ne.2 k3
      by_cases k4 : kd = 4
      · subst k4
        have HC := hid_ (HP.out.crash Ak kp.length ck kp HSk.out)
        obtain ⟨b', m', C', d', L', j1, j2, j3, j4, j5, j6, j7, j8⟩ := HP.out.ps.crash kp HM.out.1
        have HJ := hid_ (And.intro j6 (And.intro j7 j8))
        have HU := hid_ j4
        have HOq := hid_ (fun (Q G : Nat → Prop) (W : World) (h : CrSt w W gd Q G (crashD d kp) A n c ls) => h.opens HM.out.1 HM.out.2 j1 (by rw [j2, j3]; exact j5))
        rw [j2, j3] at HOq
        clear j1 j2 j3 j4 j5 j6 j7 j8 k0 k1 k3
        generalize recsL L' = rs at *
        go_wp2_with fail
        (with_reducible refine Calls.mono HC.out ?_)
        rintro e w3 ⟨rfl, Q, G, hcr⟩
        have HO3 := hid_ (HOq.out Q G w3 hcr)
        clear hcr
        go_wp2_with fail
        (with_reducible refine Calls.mono HO3.out ?_)
        rintro e w4 ⟨gx, rfl, hp⟩
        have HP4 := hid_ hp
        have HRe := hid_ (hp.records HU.out)
        clear hp
        go_wp2_with fail
        (with_reducible refine Calls.mono HRe.out ?_)
        rintro e w5 ⟨A3, c3, rfl, hro, hb5⟩
        have HB5 := hid_ hb5
        have HRo := hid_ hro
        have HS5 := hid_ hro.1.sls
        have HP5 := hid_ (HP4.out.later hb5)
        clear hro hb5
        have q1 : ¬ (rs.length : Int) < (f : Int) := by have := HJ.out.1; have := HF.out; omega
        have q2 : ¬ (n : Int) < (rs.length : Int) := by have := HJ.out.2.1; have := HAl.out; omega
        have q3 : decide ((rs.length : Int) < (f : Int)) = false := decide_eq_false q1
        have q4 : decide ((n : Int) < (rs.length : Int)) = false := decide_eq_false q2
        have q5 : rs.length ≤ c := by have := HP5.out.sls.cap; omega
        have q6 : (rs.length : Int) ≤ (c : Int) := by omega
        have q7 : (0 : Int) ≤ (rs.length : Int) := by omega
        have q8 : decide (rs.length < f) = false := decide_eq_false (by omega)
        have q9 : decide (n < rs.length) = false := decide_eq_false (by omega)
        have HSm := hid_ (fun (A9 : Option Addr) (h9 : A9 = A) => sames_below A3 A9 rs.length c3 c rs w5 HS5.out (by
          subst h9
          have h7 := sls_upto HP5.out.sls rs.length (by omega)
          rw [← HJ.out.2.2] at h7
          exact h7))
        go_wp2_with fail
        (with_reducible refine Calls.mono (HSm.out _ rfl) ?_)
        rintro e w6 ⟨rfl, hb6⟩
        have HB6 := hid_ (HB5.out.trans (hb6.mono HB5.out.size))
        have HFi := hid_ ((HP5.out.later hb6).firsts HU.out)
        have HRo6 := hid_ (HRo.out.later hb6)
        clear hb6
        go_wp2_with fail
        (with_reducible refine Calls.mono HFi.out ?_)
        rintro e w7 ⟨rfl, hb7⟩
        have HB7 := hid_ (HB6.out.trans (hb7.mono HB6.out.size))
        have HP7 := hid_ (HP4.out.swap HB7.out (HRo6.out.later hb7))
        have HSy := hid_ HP7.out.sync
        rw [HU.out] at HSy
        clear hb7
        go_wp2_with fail
        (with_reducible refine Calls.mono HSy.out ?_)
        rintro e w8 (⟨h9, -, -⟩ | ⟨-, rfl, d8, -, hp⟩)
        · cases h9
        · have HP8 := hid_ hp
          clear hp
          go_wp2_with fail
          go_roundw
          case rel => exact ⟨i + 1, gx, A3, rs.length, c3, rs.length, rs, d8, L', rs.length, _, by have := HK.out; omega, by go_num, rfl, rfl, rfl, HP8, hid_ (by have := HF.out; have := HJ.out.2.1; have := HAl.out; omega)⟩
          case measure => have := HK.out; simp [intOf]; omega
      have e4 : (kd == 4) = false := beq_eq_false_iff_ne.2 k4
      go_wp2_with fail
      go_roundw
      case rel => exact ⟨i + 1, gl, A, n, c, f, ls, d, L, s, N, by have := HK.out; omega, by go_num, rfl, rfl, rfl, HP, hid_ (by have := HF.out; omega)⟩
      case measure => have := HK.out; simp [intOf]; omega
    · obtain rfl : i = n1 := by omega
      have x1 : ¬ (i : Int) < (i : Int) := by omega
      clear hlt
      have HBe0 := hid_ HP.out.below
      go_wp2_with fail
      (with_reducible refine Calls.mono (ha.out _) ?_)
      rintro e w9 ⟨rfl, hbel⟩
      have HBe := hid_ (HBe0.out.trans (hbel.mono HBe0.out.size))
      clear hbel
      go_wp2_with fail
      go_ret
      exact ⟨rfl, HBe.out⟩

set_option maxRecDepth 100000 in
theorem lifted (os : Os) (started : os.Started) (H : Type) (enc : TypeId × Value → H) :
    ReturnsInHanded {} Try.checked os 3 .any (Rows.walPrefixSpec.pre6 enc Try.prog Try.f3 Rows.walPrefixRow.domain false) (Rows.walPrefixSpec.post enc Try.prog Try.f3 false true false false) := by
  refine returnsInHanded_of_change (C := Try.checked) own started (by kernel_rfl) Try.func3
    (ChangeSpec.witness6 (enc := enc) (C := Try.checked) false ⟨#[], #[.int .i64 0, .slice none 0 0], []⟩ 8 (by kernel_rfl) (by kernel_rfl) (by kernel_rfl) (by kernel_rfl)) ?_
  intro W base args ds gs before hval0 hW hcnd _
  have hval : ∀ (j : Nat) t v, Try.f3.params[j]? = some t → args[j]? = some v → Value.okWide Try.prog W .any base t v := hval0
  have hW' := hW
  obtain ⟨p, q, hA0, hV, rfl, hfz, hnd⟩ := hW
  have hA : DataW.TrodAll enc Try.prog W 0 (fun _ => true) true Try.f3.params.toList args.toList ds p := hA0
  rw [Try.params3] at hA hval
  obtain ⟨v0, vs0, d0, ds0, p0, q0, hargs, rfl, rfl, h0, r0⟩ := trodAll_cons hA
  obtain ⟨v1, vs1, d1, ds1, p1, q1, rfl, rfl, rfl, h1, r1⟩ := trodAll_cons r0
  obtain ⟨rfl, rfl, rfl⟩ := trodAll_nil r1
  obtain rfl : args = #[v0, v1] := by cases args; simp_all
  obtain ⟨rfl, rfl⟩ := trodVars_none hV
  obtain ⟨a0, rfl, rfl, rfl, w0⟩ := open_int Try.underlying3 (hval 0 3 v0 rfl rfl) h0
  have k1 := h1
  have lt1 : ∀ x ∈ p1, x.block < W.heap.size := by obtain ⟨m, hm⟩ := k1; exact DataW.trod_lt m _ _ _ hm
  have w1 : Wl.OpsV W v1 := Wl.open_opsV (hval 1 22 v1 rfl rfl) h1
  clear hA0 hval0
  refine (walk a0 v1 W w0 w1).mono fun e W' ⟨he, bel⟩ => ?_
  subst he
  exact ⟨_, rfl, _, _, _, [], _, [], hW', trodAll_mk1 (shut_bool Try.underlying4 _), (trodAll_cons_mk (shut_int Try.underlying3 w0) (trodAll_cons_mk (Below.trod laidOut (by kernel_rfl) (of_decide_eq_true (by kernel_rfl)) k1 bel lt1) trodAll_mk0)), rfl, bel.frame _, fun h => by cases h⟩

theorem over : Rows.walPrefixRow.holds Try.pinned (OpenSpec.ofChange Rows.walPrefixSpec) :=
  OpenClaim.holds_of_wide 3 Try.f3 rfl rfl rfl rfl rfl rfl rfl ⟨rfl, rfl, rfl, rfl, rfl⟩ rfl rfl rfl rfl rfl (by kernel_rfl) Try.func3 (by kernel_rfl)
    (of_decide_eq_true (by kernel_rfl)) (by unfold Func.isWrapper; first | (rw [if_pos (by decide +kernel)]; kernel_rfl) | (rw [if_neg (by decide +kernel)]; exact ⟨rfl, rfl⟩))
    (fun os started H enc _ => lifted os started H enc)

theorem proved : Rows.WalPrefixSaid := over
#print axioms proved
end Go.Proofs.Ytbinmaamebdneaa.walPrefix
