/- laws.FnWords answers true for every list of bytes: lists of words are recovered from their texts. Condition: the listed package-level variables hold what the text of the program lays in them. -/
import Derived.Test.YtbagolmojenohaaDoorCards
import Derived.Test.YtbagolmojenohaaDoorTie
import Derived.Test.YtbagolmojenohaaDoorOpenB
import Derived.Test.YtbagolmojenohaaDoorBig
import Derived.Test.YtbagolmojenohaaDoorMax
import Derived.Test.YtbagolmojenohaaDoorReadWords
import Derived.Test.YtbagolmojenohaaDoorPlainWords
import Derived.Test.YtbagolmojenohaaDoorLikesT
import Derived.Test.YtbagolmojenohaaDoorDrawW
import Derived.WalkKit
import Derived.ProofKit
import Derived.OpenShut
import Derived.ShutString
import Derived.SizedLaws
import Derived.Lay
import Derived.Deep.DeepHandedRow
import Derived.Deep.DeepWitnessRowRef
import Derived.SevenTiedAt
import Derived.MakeChecks
namespace Go.Proofs.YtbagolmojenohaaDoor.fnWords
open Go.ChangeShapes Go.WideShapes Go.ChangeAt Go.RowKit
open Go.ChangeMaps (open_string shut_string)
set_option linter.unusedVariables false

theorem lt_ok {w : World} {zs : List ByteArray} {t : ByteArray} {e : Ending} {w' : World} (hb : codeW zs = 0) (ht : t.data.toList = wtext zs) (h : WordsEnd w zs e w') : e = .returned (.tuple #[.string t, .int .i64 0]) ∧ Below w.heap.size w w' := by
  obtain ⟨h1, h2⟩ := h
  rw [if_pos hb] at h2
  refine ⟨?_, h1⟩
  rw [h2, ← ht]
theorem lt_bad {w : World} {zs : List ByteArray} {e : Ending} {w' : World} (hb : ¬ codeW zs = 0) (h : WordsEnd w zs e w') : e = .returned (.tuple #[.string ⟨#[]⟩, .int .i64 (codeW zs)]) ∧ Below w.heap.size w w' := by
  obtain ⟨h1, h2⟩ := h
  rw [if_neg hb] at h2
  exact ⟨h2, h1⟩
def GotL (w : World) (ys : List ByteArray) (c : Int) (e : Ending) (w' : World) : Prop :=
  ∃ A cap, e = .returned (.tuple #[.slice A ys.length cap, .int .i64 c]) ∧ Ow w' w.heap.size w'.heap.size 9 A ys.length cap (bas ys) ∧ Below w.heap.size w w'
theorem readL_some {w : World} {ys : List ByteArray} {r : Option (List ByteArray)} {e : Ending} {w' : World} (hr : r = some ys) (h : ReadEnd w r e w') : GotL w ys 0 e w' := by
  subst hr
  obtain ⟨hb, A, cap, he, ho⟩ := h
  exact ⟨A, cap, he, ho, hb⟩
theorem readL_none {w : World} {r : Option (List ByteArray)} {e : Ending} {w' : World} (hr : r = none) (h : ReadEnd w r e w') : GotL w [] 6 e w' := by
  subst hr
  obtain ⟨hb, he⟩ := h
  exact ⟨none, 0, he, ⟨World.ownsRow_nil _ _ _ _, fun g hg => by cases hg⟩, hb⟩
set_option maxRecDepth 100000 in
set_option maxHeartbeats 16000000 in
theorem walk (A : Option Addr) (n cap : Nat) (bs : List Int) (w : World) (h : Rd w 0 w.heap.size A n (byts bs)) (hn : n * 1 ≤ 140737488351232) (hs : ∀ z ∈ bs, 0 ≤ z ∧ z ≤ 255) (hL : laidMetH Tryd.prog Rows.fnWordsRow.laid w) (hsh : w.ShapedOpen Tryd.prog) :
    Calls Tryd.prog 3 #[.slice A n cap] w fun e w' => e = .returned (.bool true) ∧ Below w.heap.size w w' := by
  have hm := HasMax.of_shape hsh
  clear hL hsh
  have HB := Go.Lib.hid (big_ A n cap w)
  by_cases hbig : (4096 : Int) < n
  · go_enter Tryd.func3, Tryd.ntmps3
    go_wp2_with fail
    refine HB.out.mono ?_
    rintro e w' ⟨rfl, rfl⟩
    go_wp2_with fail
    go_ret
    exact ⟨rfl, Below.refl _ _⟩
  · have hb2 := big_ A n cap w
    rw [decide_eq_false hbig] at hb2
    have HB2 := Go.Lib.hid hb2
    clear hb2
    have HMI := Go.Lib.hid (fun A n cap zs lo w0 (hb : Below w.heap.size w w0) h hn hc hs => implWordsText A n cap zs lo w0 h hn hc hs)
    have HMS := Go.Lib.hid (fun A n cap zs lo w0 h hn hs => specWordsText A n cap zs lo w0 h hn hs)
    have HRI := Go.Lib.hid (fun (s : ByteArray) (hs : s.size ≤ 1048576) w0 (h : Below w.heap.size w w0) => implReadWords s w0 hs (hm.below h hm.lt))
    have HRS := Go.Lib.hid (fun (s : ByteArray) (hs : s.size ≤ 1048576) w0 => specReadWords s w0 hs)
    clear hm
    go_enter Tryd.func3, Tryd.ntmps3
    go_wp2_with fail
    refine HB2.out.mono ?_
    rintro e w' ⟨rfl, rfl⟩
    go_wp2_with fail
    refine (drawWordsText A n cap bs w h hs (by omega)).mono ?_
    rintro e w1 ⟨zs, q, c2, rfl, o1, hl1, hf1, b1⟩
    have HC1 := Go.Lib.hid o1.le
    have HF1 := Go.Lib.hid (fun z hz => Nat.le_trans (hf1 z hz) (by unfold maxLen; omega) : ∀ z ∈ zs, z.size ≤ maxLen)
    have HF2 := Go.Lib.hid hf1
    clear hf1
    have B1 := Go.Lib.hid b1
    have D1 := Go.Lib.hid (Below.refl w1.heap.size w1)
    have HX := Go.Lib.hid (fun W (hd : Below w1.heap.size w1 W) => ((o1.below hd (Nat.le_refl _)).rd).mono (Nat.le_refl _) hd.size)
    have BB := Go.Lib.hid (fun W (hd : Below w1.heap.size w1 W) => b1.trans (hd.mono b1.size))
    clear b1 HB HB2 hbig o1
    by_cases hx : codeW zs = 0
    · obtain ⟨t, htx⟩ : ∃ t : ByteArray, t.data.toList = wtext zs := ⟨⟨(wtext zs).toArray⟩, by simp⟩
      have HI := Go.Lib.hid (fun w0 (hd : Below w1.heap.size w1 w0) => (HMI.out (some ⟨q, 0, none⟩) zs.length c2 zs w.heap.size w0 (BB.out w0 hd) (HX.out w0 hd) (by omega) HC1.out HF1.out).mono fun _ _ h => lt_ok hx htx h)
      have HS := Go.Lib.hid (fun w0 (hd : Below w1.heap.size w1 w0) => (HMS.out (some ⟨q, 0, none⟩) zs.length c2 zs w.heap.size w0 (HX.out w0 hd) (by omega) HF1.out).mono fun _ _ h => lt_ok hx htx h)
      have HBK := Go.Lib.hid (fun (hsz : t.size ≤ 1048576) w0 h => (HRI.out t hsz w0 h).mono fun _ _ q => readL_some (words_read hx htx) q)
      have hts : t.size ≤ 1048576 := by
        have h2 : (wtext zs).length ≤ 1100 := wtext_len HF2.out hl1
        have h3 : t.data.toList.length = t.size := by simp
        rw [htx] at h3
        omega
      clear htx hx
      go_wp2_with fail
      refine (HI.out w1 D1.out).mono ?_
      rintro e w2 ⟨rfl, b2⟩
      have D2 := Go.Lib.hid (D1.out.trans (b2.mono D1.out.size))
      clear b2
      go_wp2_with fail
      refine (HS.out w2 D2.out).mono ?_
      rintro e w3 ⟨rfl, b3⟩
      have D3 := Go.Lib.hid (D2.out.trans (b3.mono D2.out.size))
      clear b3
      go_wp2_with fail
      refine (drawReadWords A n cap bs w3 ((h.below (BB.out w3 D3.out) (Nat.le_refl _)).mono (Nat.le_refl _) (BB.out w3 D3.out).size) hs (by omega)).mono ?_
      rintro e w4 ⟨s, rfl, hsz, b4⟩
      have D4 := Go.Lib.hid (D3.out.trans (b4.mono D3.out.size))
      clear b4 HI HS D1 D2 D3
      have hs1 : s.size ≤ 1048576 := by omega
      cases hr : readsW s with
      | none =>
        have HI2 := Go.Lib.hid (fun w0 h => (HRI.out s hs1 w0 h).mono fun _ _ h => readL_none hr h)
        have HS2 := Go.Lib.hid (fun w0 => (HRS.out s hs1 w0).mono fun _ _ h => readL_none hr h)
        obtain ⟨ys, hys⟩ : ∃ ys : List ByteArray, ys = [] := ⟨_, rfl⟩
        rw [← hys] at HI2 HS2
        have hyl : ys.length ≤ 60 := by rw [hys]; simp
        clear hys
        clear hr
        go_wp2_with fail
        refine (HI2.out w4 (BB.out w4 D4.out)).mono ?_
        rintro e w5 ⟨Ay, cy, rfl, oy, b5⟩
        have D5 := Go.Lib.hid (D4.out.trans (b5.mono D4.out.size))
        go_wp2_with fail
        refine (HS2.out w5).mono ?_
        rintro e w6 ⟨Ar, cr, rfl, orr, b6⟩
        have D6 := Go.Lib.hid (D5.out.trans (b6.mono D5.out.size))
        have oy6 := oy.below b6 (Nat.le_refl _)
        have HCY := Go.Lib.hid oy.le
        have HLK := Go.Lib.hid (likeTexts_same Ay Ar ys.length cy cr ys _ _ _ _ w6 oy6.rd orr.rd (by omega))
        have HY := Go.Lib.hid (fun W (hd : Below w6.heap.size w6 W) => ((oy6.below hd b6.size).rd).mono (Nat.le_refl _) (Nat.le_trans b6.size hd.size))
        clear b5 b6 oy oy6 orr D4 D5
        go_wp2_with fail
        refine HLK.out.mono ?_
        rintro e w7 ⟨rfl, m7, rfl⟩
        have D7 := Go.Lib.hid (below_drewN D6.out m7)
        have E7 := Go.Lib.hid (below_drewN (Below.refl w6.heap.size w6) m7)
        clear D6 HLK
        generalize w6.drewN m7 = w7 at D7 E7 ⊢
        go_wp2_with fail
        refine (HBK.out hts w7 (BB.out w7 D7.out)).mono ?_
        rintro e w9 ⟨Ab, cb, rfl, ob, b9⟩
        have D9 := Go.Lib.hid (D7.out.trans (b9.mono D7.out.size))
        have HL2 := Go.Lib.hid (likeTexts_same Ab (some ⟨q, 0, none⟩) zs.length cb c2 zs _ _ _ _ w9 ob.rd (HX.out w9 D9.out) (by omega))
        clear b9 ob
        go_wp2_with fail
        refine HL2.out.mono ?_
        rintro e w10 ⟨rfl, m10, rfl⟩
        have F := below_drewN (BB.out w9 D9.out) m10
        go_wp2_with fail
        go_ret
        exact ⟨rfl, F⟩
      | some ys =>
        have HI2 := Go.Lib.hid (fun w0 h => (HRI.out s hs1 w0 h).mono fun _ _ h => readL_some hr h)
        have HS2 := Go.Lib.hid (fun w0 => (HRS.out s hs1 w0).mono fun _ _ h => readL_some hr h)
        obtain ⟨hv1, hv2⟩ := reads_words hr
        have hyl := (codeW_zero hv1).2
        have HAG := Go.Lib.hid (fun A n cap lo w0 hb (h : Rd w0 lo w0.heap.size A n (bas ys)) hn hc => (HMI.out A n cap ys lo w0 hb h hn hc (word_sizes (codeW_zero hv1).1)).mono fun _ _ h => lt_ok hv1 hv2 h)
        clear hv1 hv2
        clear hr
        go_wp2_with fail
        refine (HI2.out w4 (BB.out w4 D4.out)).mono ?_
        rintro e w5 ⟨Ay, cy, rfl, oy, b5⟩
        have D5 := Go.Lib.hid (D4.out.trans (b5.mono D4.out.size))
        go_wp2_with fail
        refine (HS2.out w5).mono ?_
        rintro e w6 ⟨Ar, cr, rfl, orr, b6⟩
        have D6 := Go.Lib.hid (D5.out.trans (b6.mono D5.out.size))
        have oy6 := oy.below b6 (Nat.le_refl _)
        have HCY := Go.Lib.hid oy.le
        have HLK := Go.Lib.hid (likeTexts_same Ay Ar ys.length cy cr ys _ _ _ _ w6 oy6.rd orr.rd (by omega))
        have HY := Go.Lib.hid (fun W (hd : Below w6.heap.size w6 W) => ((oy6.below hd b6.size).rd).mono (Nat.le_refl _) (Nat.le_trans b6.size hd.size))
        clear b5 b6 oy oy6 orr D4 D5
        go_wp2_with fail
        refine HLK.out.mono ?_
        rintro e w7 ⟨rfl, m7, rfl⟩
        have D7 := Go.Lib.hid (below_drewN D6.out m7)
        have E7 := Go.Lib.hid (below_drewN (Below.refl w6.heap.size w6) m7)
        clear D6 HLK
        generalize w6.drewN m7 = w7 at D7 E7 ⊢
        go_wp2_with fail
        refine (HAG.out Ay ys.length cy _ w7 (BB.out w7 D7.out) (HY.out w7 E7.out) (by omega) HCY.out).mono ?_
        rintro e w8 ⟨rfl, b8⟩
        have D8 := Go.Lib.hid (D7.out.trans (b8.mono D7.out.size))
        clear b8 D7
        go_wp2_with fail
        refine (HBK.out hts w8 (BB.out w8 D8.out)).mono ?_
        rintro e w9 ⟨Ab, cb, rfl, ob, b9⟩
        have D9 := Go.Lib.hid (D8.out.trans (b9.mono D8.out.size))
        have HL2 := Go.Lib.hid (likeTexts_same Ab (some ⟨q, 0, none⟩) zs.length cb c2 zs _ _ _ _ w9 ob.rd (HX.out w9 D9.out) (by omega))
        clear b9 ob
        go_wp2_with fail
        refine HL2.out.mono ?_
        rintro e w10 ⟨rfl, m10, rfl⟩
        have F := below_drewN (BB.out w9 D9.out) m10
        go_wp2_with fail
        go_ret
        exact ⟨rfl, F⟩
    · have HI := Go.Lib.hid (fun w0 (hd : Below w1.heap.size w1 w0) => (HMI.out (some ⟨q, 0, none⟩) zs.length c2 zs w.heap.size w0 (BB.out w0 hd) (HX.out w0 hd) (by omega) HC1.out HF1.out).mono fun _ _ h => lt_bad hx h)
      have HS := Go.Lib.hid (fun w0 (hd : Below w1.heap.size w1 w0) => (HMS.out (some ⟨q, 0, none⟩) zs.length c2 zs w.heap.size w0 (HX.out w0 hd) (by omega) HF1.out).mono fun _ _ h => lt_bad hx h)
      have hxb : (codeW zs != 0) = true := by simpa using hx
      clear hx
      generalize codeW zs = cz at HI HS hxb
      go_wp2_with fail
      refine (HI.out w1 D1.out).mono ?_
      rintro e w2 ⟨rfl, b2⟩
      have D2 := Go.Lib.hid (D1.out.trans (b2.mono D1.out.size))
      clear b2
      go_wp2_with fail
      refine (HS.out w2 D2.out).mono ?_
      rintro e w3 ⟨rfl, b3⟩
      have D3 := Go.Lib.hid (D2.out.trans (b3.mono D2.out.size))
      clear b3
      go_wp2_with fail
      refine (drawReadWords A n cap bs w3 ((h.below (BB.out w3 D3.out) (Nat.le_refl _)).mono (Nat.le_refl _) (BB.out w3 D3.out).size) hs (by omega)).mono ?_
      rintro e w4 ⟨s, rfl, hsz, b4⟩
      have D4 := Go.Lib.hid (D3.out.trans (b4.mono D3.out.size))
      clear b4 HI HS D1 D2 D3
      have hs1 : s.size ≤ 1048576 := by omega
      cases hr : readsW s with
      | none =>
        have HI2 := Go.Lib.hid (fun w0 h => (HRI.out s hs1 w0 h).mono fun _ _ h => readL_none hr h)
        have HS2 := Go.Lib.hid (fun w0 => (HRS.out s hs1 w0).mono fun _ _ h => readL_none hr h)
        obtain ⟨ys, hys⟩ : ∃ ys : List ByteArray, ys = [] := ⟨_, rfl⟩
        rw [← hys] at HI2 HS2
        have hyl : ys.length ≤ 60 := by rw [hys]; simp
        clear hys
        clear hr
        go_wp2_with fail
        refine (HI2.out w4 (BB.out w4 D4.out)).mono ?_
        rintro e w5 ⟨Ay, cy, rfl, oy, b5⟩
        have D5 := Go.Lib.hid (D4.out.trans (b5.mono D4.out.size))
        go_wp2_with fail
        refine (HS2.out w5).mono ?_
        rintro e w6 ⟨Ar, cr, rfl, orr, b6⟩
        have D6 := Go.Lib.hid (D5.out.trans (b6.mono D5.out.size))
        have oy6 := oy.below b6 (Nat.le_refl _)
        have HCY := Go.Lib.hid oy.le
        have HLK := Go.Lib.hid (likeTexts_same Ay Ar ys.length cy cr ys _ _ _ _ w6 oy6.rd orr.rd (by omega))
        have HY := Go.Lib.hid (fun W (hd : Below w6.heap.size w6 W) => ((oy6.below hd b6.size).rd).mono (Nat.le_refl _) (Nat.le_trans b6.size hd.size))
        clear b5 b6 oy oy6 orr D4 D5
        go_wp2_with fail
        refine HLK.out.mono ?_
        rintro e w7 ⟨rfl, m7, rfl⟩
        have D7 := Go.Lib.hid (below_drewN D6.out m7)
        have E7 := Go.Lib.hid (below_drewN (Below.refl w6.heap.size w6) m7)
        clear D6 HLK
        generalize w6.drewN m7 = w7 at D7 E7 ⊢
        go_wp2_with fail
        go_ret
        exact ⟨rfl, BB.out w7 D7.out⟩
      | some ys =>
        have HI2 := Go.Lib.hid (fun w0 h => (HRI.out s hs1 w0 h).mono fun _ _ h => readL_some hr h)
        have HS2 := Go.Lib.hid (fun w0 => (HRS.out s hs1 w0).mono fun _ _ h => readL_some hr h)
        obtain ⟨hv1, hv2⟩ := reads_words hr
        have hyl := (codeW_zero hv1).2
        have HAG := Go.Lib.hid (fun A n cap lo w0 hb (h : Rd w0 lo w0.heap.size A n (bas ys)) hn hc => (HMI.out A n cap ys lo w0 hb h hn hc (word_sizes (codeW_zero hv1).1)).mono fun _ _ h => lt_ok hv1 hv2 h)
        clear hv1 hv2
        clear hr
        go_wp2_with fail
        refine (HI2.out w4 (BB.out w4 D4.out)).mono ?_
        rintro e w5 ⟨Ay, cy, rfl, oy, b5⟩
        have D5 := Go.Lib.hid (D4.out.trans (b5.mono D4.out.size))
        go_wp2_with fail
        refine (HS2.out w5).mono ?_
        rintro e w6 ⟨Ar, cr, rfl, orr, b6⟩
        have D6 := Go.Lib.hid (D5.out.trans (b6.mono D5.out.size))
        have oy6 := oy.below b6 (Nat.le_refl _)
        have HCY := Go.Lib.hid oy.le
        have HLK := Go.Lib.hid (likeTexts_same Ay Ar ys.length cy cr ys _ _ _ _ w6 oy6.rd orr.rd (by omega))
        have HY := Go.Lib.hid (fun W (hd : Below w6.heap.size w6 W) => ((oy6.below hd b6.size).rd).mono (Nat.le_refl _) (Nat.le_trans b6.size hd.size))
        clear b5 b6 oy oy6 orr D4 D5
        go_wp2_with fail
        refine HLK.out.mono ?_
        rintro e w7 ⟨rfl, m7, rfl⟩
        have D7 := Go.Lib.hid (below_drewN D6.out m7)
        have E7 := Go.Lib.hid (below_drewN (Below.refl w6.heap.size w6) m7)
        clear D6 HLK
        generalize w6.drewN m7 = w7 at D7 E7 ⊢
        go_wp2_with fail
        refine (HAG.out Ay ys.length cy _ w7 (BB.out w7 D7.out) (HY.out w7 E7.out) (by omega) HCY.out).mono ?_
        rintro e w8 ⟨rfl, b8⟩
        have D8 := Go.Lib.hid (D7.out.trans (b8.mono D7.out.size))
        clear b8 D7
        go_wp2_with fail
        go_ret
        exact ⟨rfl, BB.out w8 D8.out⟩

set_option maxRecDepth 100000 in
theorem contract (H : Type) (enc : TypeId × Value → H) (W : World) (base : Nat) (args : Array Value) (ds gs : List (DataW H)) (before : List MemPlace)
    (hval : ∀ (j : Nat) t v, Tryd.f3.params[j]? = some t → args[j]? = some v → Value.okWide Tryd.prog W .any base t v)
    (hW : DataW.Whole enc Tryd.prog Tryd.f3.params.toList Rows.fnWordsSpec.vars false W args.toList ds gs before) (hsz : (DataW.weightsEach Tryd.prog (Tryd.f3.params.toList ++ Rows.fnWordsSpec.plain.varTypes Tryd.prog) (ds ++ gs)).all (· ≤ reachBytes) = true) (hL : laidMetH Tryd.prog Rows.fnWordsRow.laid W) (hsh : W.ShapedOpen Tryd.prog) :
    Calls Tryd.prog 3 args W fun e W' => ∃ v, e = .returned v ∧ Rows.fnWordsSpec.post enc Tryd.prog Tryd.f3 false true false false W args v W' := by
  have hW' := hW
  obtain ⟨p, q, hA0, hV, rfl, hfz, hnd⟩ := hW
  have hA : DataW.TrodAll enc Tryd.prog W 0 (fun _ => true) true Tryd.f3.params.toList args.toList ds p := hA0
  rw [Tryd.params3] at hA hval hsz
  obtain ⟨v0, vs0, d0, ds0, p0, q0, hargs, rfl, rfl, h0, r0⟩ := trodAll_cons hA
  obtain ⟨rfl, rfl, rfl⟩ := trodAll_nil r0
  obtain rfl : args = #[v0] := by cases args; simp_all
  obtain ⟨rfl, rfl⟩ := trodVars_none hV
  obtain ⟨a0, len0, cap0, rfl⟩ := okWide_slice Tryd.underlying22 (hval 0 22 v0 rfl rfl)
  have k0 := h0
  have lt0 : ∀ x ∈ p0, x.block < W.heap.size := by obtain ⟨m, hm⟩ := k0; exact DataW.trod_lt m _ _ _ hm
  obtain ⟨⟨z0, rd0, sz0⟩, hlc0, hp0⟩ := open_list_bytes h0
  have reach0 : len0 * 1 ≤ 140737488351232 := by
    rcases hp0 with hp0 | ⟨E0, S0, rfl, hl0⟩
    · omega
    · have := sized_slice hsz (j := 0) (t := 22) (e := 5) rfl rfl Tryd.underlying22
      rw [show Tryd.prog.bytesOf 5 = 1 by kernel_rfl] at this
      simp only [reachBytes] at this
      omega
  clear hA0
  refine (walk a0 len0 cap0 z0 W rd0 reach0 sz0 hL hsh).mono fun e W' ⟨he, bel⟩ => ?_
  subst he
  exact ⟨_, rfl, _, _, _, [], _, [], hW', trodAll_mk1 (shut_bool Tryd.underlying4 _), (trodAll_cons_mk (Below.trod laidOut (by kernel_rfl) (of_decide_eq_true (by kernel_rfl)) k0 bel lt0) trodAll_mk0), rfl, bel.frame _, fun h => by cases h⟩

theorem laid_met (os : Os) (args : Array Value) : laidMetH Tryd.prog Rows.fnWordsRow.laid ((World.laidAll Tryd.prog os Rows.fnWordsRow.laid).forCall (fun _ _ => 0) ⟨#[], args, []⟩).memory := by
  rw [MakeChecks.laidMetH_plain _ _ _ (by kernel_rfl)]
  exact laidMet_laidAll _ (by kernel_rfl) (by kernel_rfl)
theorem reads (os : Os) {H : Type} (enc : TypeId × Value → H) : ∃ places, DataW.whole enc Tryd.prog ((World.laidAll Tryd.prog os Rows.fnWordsRow.laid).forCall (fun _ _ => 0) ⟨#[], #[.slice none 0 0], []⟩).memory Tryd.f3.params.toList Rows.fnWordsSpec.vars false #[Value.slice none 0 0].toList 8 = some ([.nil], [], places) :=
  ⟨[], by kernel_rfl⟩

set_option maxRecDepth 100000 in
theorem lifted (os : Os) (started : os.Started) (H : Type) (enc : TypeId × Value → H) (F : Stop.Interp) :
    ReturnsInHanded {} Tryd.checked os 3 .any ((OpenSpec.ofChange Rows.fnWordsSpec).preRow enc Tryd.prog Tryd.f3 Rows.fnWordsRow.domain false Rows.fnWordsRow.laid) (((OpenSpec.ofChange Rows.fnWordsSpec).at F).post enc Tryd.prog Tryd.f3 false true false false) := by
  obtain ⟨places, hx⟩ := reads os enc
  refine returnsInHanded_of_row (C := Tryd.checked) (s := OpenSpec.ofChange Rows.fnWordsSpec) own started (by kernel_rfl) Tryd.func3
    (witness_row_atRef (enc := enc) (C := Tryd.checked) false (World.laidAll Tryd.prog os Rows.fnWordsRow.laid) #[.slice none 0 0] rfl (by kernel_rfl) (by kernel_rfl) (by kernel_rfl)
      (OpenSpec.preRow_of_cond 8 hx (by kernel_rfl) (fun k hk => by cases hk) (by kernel_rfl) (laid_met os _))) ?_
  intro W base args ds gs before hval hW _ _ hsz hL hsh _
  exact contract H enc W base args ds gs before hval hW hsz hL hsh

theorem said : Rows.FnWordsSaid :=
  OpenClaim.holds_of_cond 3 Tryd.f3 rfl rfl rfl rfl rfl rfl rfl ⟨rfl, rfl, rfl, rfl, rfl⟩ rfl rfl rfl rfl rfl (by kernel_rfl) Tryd.func3 (by kernel_rfl)
    (of_decide_eq_true (by kernel_rfl)) (by unfold Func.isWrapper; first | (rw [if_pos (by decide +kernel)]; kernel_rfl) | (rw [if_neg (by decide +kernel)]; exact ⟨rfl, rfl⟩))
    (fun os started H enc _ F => by rw [OpenClaim.pre_eq_preRow]; exact lifted os started H enc F)

theorem plain (f : FuncId) (fn : Func) (hf : Tryd.pinned.checked.prog.funcNamed "loop.example/g01050/laws.FnWords" = some f) (hfn : Tryd.pinned.checked.prog.funcs[f]? = some fn) :
    false = Tryd.pinned.checked.prog.looks [] ∧ ∀ (j : Nat) t, fn.params[j]? = some t → Tryd.pinned.checked.prog.wantsStandIn t = false := by
  obtain rfl : f = 3 := Option.some.inj ((show Tryd.prog.funcNamed "loop.example/g01050/laws.FnWords" = some 3 by kernel_rfl).symm.trans hf) |>.symm
  obtain rfl : fn = Tryd.f3 := (Option.some.inj (Tryd.func3.symm.trans hfn)).symm
  refine ⟨by kernel_rfl, fun j t ht => ?_⟩
  rw [Tryd.params3] at ht
  have hm : t ∈ [22] := by simpa using Array.mem_of_getElem? ht
  have hall : ([22].all fun u => !Tryd.prog.wantsStandIn u) = true := by kernel_rfl
  exact (show Tryd.prog.wantsStandIn t = false by simpa using List.all_eq_true.1 hall t hm)

theorem proved : Rows.FnWordsCardSaid :=
  Claim7.holds_tied_plain_at .later [] _ _ _ _ said (fun _ h => by cases h) (by kernel_rfl) (fun _ h => by cases h) fnWords_row_tie rfl ⟨rfl, rfl⟩ (by kernel_rfl) rfl plain (by kernel_rfl)
end Go.Proofs.YtbagolmojenohaaDoor.fnWords
