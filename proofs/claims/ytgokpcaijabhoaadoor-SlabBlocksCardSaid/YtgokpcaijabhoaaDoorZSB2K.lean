/- Texts of a proof, one behind the other. Conditions: those each says. -/
import Derived.Test.YtgokpcaijabhoaaDoorZSB2
import Derived.Test.YtgokpcaijabhoaaDoorZSB1K
import Derived.Test.YtgokpcaijabhoaaDoorZSB1T
import Derived.Test.YtgokpcaijabhoaaDoorZ4
namespace Go.Proofs.YtgokpcaijabhoaaDoor
open Go.Ev Go.RowKit
set_option maxRecDepth 100000
set_option linter.unusedVariables false
def gA (S : Sy) : Value := .agg #[.int .i64 (S.ρ 5), .int .i64 1, .int .i64 0, .int .i64 1, .int .i64 2, .int .i64 7, .int .i64 16, .int .i64 17, .int .i64 21, .int .i64 22, .int .i64 (S.ρ 31), .int .i64 (S.ρ 32), .int .i64 (S.ρ 33), .int .i64 (S.ρ 34), .int .i64 (S.ρ 35), .int .i64 (S.ρ 36), .int .i64 (S.ρ 37), .int .i64 (S.ρ 38), .int .i64 (S.ρ 39), .int .i64 (S.ρ 40), .int .i64 (S.ρ 41), .int .i64 (S.ρ 42)]
def gQ : Value := .agg ([vv .i64 5, .int .i64 1, .int .i64 0, .int .i64 1, .int .i64 2, .int .i64 7, .int .i64 16, .int .i64 17, .int .i64 21, .int .i64 22, vv .i64 31, vv .i64 32, vv .i64 33, vv .i64 34, vv .i64 35, vv .i64 36, vv .i64 37, vv .i64 38, vv .i64 39, vv .i64 40, vv .i64 41, vv .i64 42] : List Value).toArray
def gL : Pm := .agg (List.replicate 22 (.int .i64))
theorem gCT_den {S : Sy} {t : Tm} {x : Int} (h : t.den S = some [x]) : (gCT t).den S = some (glS S x) := by simp [gCT, glS, Tm.den, h]
theorem gA_vs {S T : Sy} {G : Nat → Option Obj} {ι : Inj} {x : Int} (y : Stay [98, 99] [] S T) (hx : T.ρ 98 = x) : VsOk T G ι [gQ, vv .i64 98] [gA S, .int .i64 x] :=
  vs_agg (vs_sym (y.num 5 rfl) (vs_int (vs_int (vs_int (vs_int (vs_int (vs_int (vs_int (vs_int (vs_int (vs_sym (y.num 31 rfl) (vs_sym (y.num 32 rfl) (vs_sym (y.num 33 rfl) (vs_sym (y.num 34 rfl) (vs_sym (y.num 35 rfl) (vs_sym (y.num 36 rfl) (vs_sym (y.num 37 rfl) (vs_sym (y.num 38 rfl) (vs_sym (y.num 39 rfl) (vs_sym (y.num 40 rfl) (vs_sym (y.num 41 rfl) (vs_sym (y.num 42 rfl) vs_nil)))))))))))))))))))))) (vs_sym hx vs_nil)
theorem runP {T : Sy} (ty : TypeId) (ha : AlOk T (alGL ++ (alLL ++ alQPL))) (G : Nat → Option Obj) : outV (runS Tryd.prog (ftOf Tryd.prog) ha [] G 1000 (.fn 43 [gQ, vv .i64 98].toArray) (H0g Tryd.prog (gsT ty))) = some (.float .f64 (Tm.var .i64 99).enc) := by kernel_rfl
set_option maxHeartbeats 4000000 in
theorem anyP (ty : TypeId) {S : Sy} (g : GeoS S) (x : Int) (h0 : 0 ≤ x) (h1 : x < S.ρ 5) (w : World) (hw : GOk Tryd.prog (gsT ty) w) : Calls Tryd.prog 43 #[gA S, .int .i64 x] w fun e w' => e = .returned (.int .i64 (22 + x)) ∧ Quiet w w' := by
  have hK := g.K
  have e31 := g.e31; have e32 := g.e32
  obtain ⟨T, hT⟩ : ∃ T : Sy, T = S.set (upd S.ρ [(98, x), (99, 22 + x)]) [] 60 rfl hK := ⟨_, rfl⟩
  have y : Stay [98, 99] [] S T := by rw [hT]; exact (Stay.refl _ _ _).set rfl rfl
  have t98 : T.ρ 98 = x := by rw [hT]; rfl
  have t99 : T.ρ 99 = 22 + x := by rw [hT]; rfl
  clear hT
  have gT : GeoS T := g.stay y rfl rfl
  have f5 : T.ρ 5 = S.ρ 5 := y.num 5 rfl
  have f31 : T.ρ 31 = S.ρ 31 := y.num 31 rfl
  have f32 : T.ρ 32 = S.ρ 32 := y.num 32 rfl
  have hal : AlOk T (alGL ++ (alLL ++ alQPL)) := AlOk.app (alG_ok gT) (AlOk.app (alL_ok gT) (alQP_ok ⟨gT, by omega, by omega, by omega⟩))
  exact symOne env hal (cs := []) (fun c hc => noC c hc) (n := 1000) (f := 43) (args := [gQ, vv .i64 98]) (args' := [gA S, .int .i64 x]) (k := .i64) (.var .i64 99) (r := 22 + x) rfl rfl (show some [T.ρ 99] = some [22 + x] from congrArg (fun z => some [z]) (by omega)) (fun G => runP ty hal G) (fun G ι => gA_vs y t98) w hw gT.I
theorem runB {T : Sy} (ty : TypeId) (ha : AlOk T (alGL ++ (alLL ++ alQBL))) (G : Nat → Option Obj) : outV (runS Tryd.prog (ftOf Tryd.prog) ha [] G 1000 (.fn 10 [gQ, vv .i64 98].toArray) (H0g Tryd.prog (gsT ty))) = some (.float .f64 (Tm.var .i64 99).enc) := by kernel_rfl
set_option maxHeartbeats 4000000 in
theorem anyB (ty : TypeId) {S : Sy} (g : GeoS S) (x : Int) (h0 : 0 ≤ x) (h1 : x < S.ρ 5) (w : World) (hw : GOk Tryd.prog (gsT ty) w) : Calls Tryd.prog 10 #[gA S, .int .i64 x] w fun e w' => e = .returned (.int .i64 (22 + S.ρ 5 + x)) ∧ Quiet w w' := by
  have hK := g.K
  have e31 := g.e31; have e32 := g.e32
  obtain ⟨T, hT⟩ : ∃ T : Sy, T = S.set (upd S.ρ [(98, x), (99, S.ρ 31 + x)]) [] 60 rfl hK := ⟨_, rfl⟩
  have y : Stay [98, 99] [] S T := by rw [hT]; exact (Stay.refl _ _ _).set rfl rfl
  have t98 : T.ρ 98 = x := by rw [hT]; rfl
  have t99 : T.ρ 99 = S.ρ 31 + x := by rw [hT]; rfl
  clear hT
  have gT : GeoS T := g.stay y rfl rfl
  have f5 : T.ρ 5 = S.ρ 5 := y.num 5 rfl
  have f31 : T.ρ 31 = S.ρ 31 := y.num 31 rfl
  have f32 : T.ρ 32 = S.ρ 32 := y.num 32 rfl
  have hal : AlOk T (alGL ++ (alLL ++ alQBL)) := AlOk.app (alG_ok gT) (AlOk.app (alL_ok gT) (alQB_ok ⟨gT, by omega, by omega, by omega⟩))
  exact symOne env hal (cs := []) (fun c hc => noC c hc) (n := 1000) (f := 10) (args := [gQ, vv .i64 98]) (args' := [gA S, .int .i64 x]) (k := .i64) (.var .i64 99) (r := 22 + S.ρ 5 + x) rfl rfl (show some [T.ρ 99] = some [22 + S.ρ 5 + x] from congrArg (fun z => some [z]) (by omega)) (fun G => runB ty hal G) (fun G ι => gA_vs y t98) w hw gT.I
theorem runR {T : Sy} (ty : TypeId) (ha : AlOk T (alGL ++ (alLL ++ alQRL))) (G : Nat → Option Obj) : outV (runS Tryd.prog (ftOf Tryd.prog) ha [] G 1000 (.fn 44 [gQ, vv .i64 98].toArray) (H0g Tryd.prog (gsT ty))) = some (.float .f64 (Tm.var .i64 99).enc) := by kernel_rfl
set_option maxHeartbeats 4000000 in
theorem anyR (ty : TypeId) {S : Sy} (g : GeoS S) (x : Int) (h0 : 0 ≤ x) (h1 : x < S.ρ 5) (w : World) (hw : GOk Tryd.prog (gsT ty) w) : Calls Tryd.prog 44 #[gA S, .int .i64 x] w fun e w' => e = .returned (.int .i64 (22 + 2 * S.ρ 5 + x)) ∧ Quiet w w' := by
  have hK := g.K
  have e31 := g.e31; have e32 := g.e32
  obtain ⟨T, hT⟩ : ∃ T : Sy, T = S.set (upd S.ρ [(98, x), (99, S.ρ 32 + x)]) [] 60 rfl hK := ⟨_, rfl⟩
  have y : Stay [98, 99] [] S T := by rw [hT]; exact (Stay.refl _ _ _).set rfl rfl
  have t98 : T.ρ 98 = x := by rw [hT]; rfl
  have t99 : T.ρ 99 = S.ρ 32 + x := by rw [hT]; rfl
  clear hT
  have gT : GeoS T := g.stay y rfl rfl
  have f5 : T.ρ 5 = S.ρ 5 := y.num 5 rfl
  have f31 : T.ρ 31 = S.ρ 31 := y.num 31 rfl
  have f32 : T.ρ 32 = S.ρ 32 := y.num 32 rfl
  have hal : AlOk T (alGL ++ (alLL ++ alQRL)) := AlOk.app (alG_ok gT) (AlOk.app (alL_ok gT) (alQR_ok ⟨gT, by omega, by omega, by omega⟩))
  exact symOne env hal (cs := []) (fun c hc => noC c hc) (n := 1000) (f := 44) (args := [gQ, vv .i64 98]) (args' := [gA S, .int .i64 x]) (k := .i64) (.var .i64 99) (r := 22 + 2 * S.ρ 5 + x) rfl rfl (show some [T.ρ 99] = some [22 + 2 * S.ρ 5 + x] from congrArg (fun z => some [z]) (by omega)) (fun G => runR ty hal G) (fun G ι => gA_vs y t98) w hw gT.I
noncomputable def mayQ (l : List Nat) (a : Nat) : Bool := l.any fun c => Nat.beq a c
theorem mayQ_in {ts : List Tm} {a : Nat} (h : mayQ (ts.map fun t => (gCT t).enc) a = true) : ∃ t ∈ ts, Nat.beq a (gCT t).enc = true := by
  obtain ⟨c, hc, e⟩ := List.any_eq_true.1 h
  obtain ⟨t, ht, rfl⟩ := List.mem_map.1 hc
  exact ⟨t, ht, e⟩
theorem cP_ok (ty : TypeId) {S : Sy} (g : GeoS S) {ts : List Tm} {cds : List Nat} (hc : cds = ts.map fun t => (gCT t).enc) (hok : (ts.all fun t => (gCT t).ok) = true) (ht : ∀ t ∈ ts, ∃ x, t.den S = some [x] ∧ 0 ≤ x ∧ x < S.ρ 5) : CtrOk Tryd.prog S (gsT ty) ⟨43, [gL, .one (.int .i64)], [.one (.int .i64)], 32, mayQ cds⟩ := by
  intro a ns hm he hl w hw
  subst hc
  obtain ⟨t, ht', hb⟩ := mayQ_in hm
  obtain ⟨x, hx, h0, h1⟩ := ht t ht'
  have q := may_args hb (List.all_eq_true.1 hok t ht') he
  rw [gCT_den hx] at q
  obtain rfl := Option.some.inj q
  refine Calls.mono (anyP ty g x h0 h1 w hw) fun e w' ⟨q1, q2⟩ => ⟨?_, q2⟩
  rw [q1, ← g.pgF x]; rfl
theorem cB_ok (ty : TypeId) {S : Sy} (g : GeoS S) {ts : List Tm} {cds : List Nat} (hc : cds = ts.map fun t => (gCT t).enc) (hok : (ts.all fun t => (gCT t).ok) = true) (ht : ∀ t ∈ ts, ∃ x, t.den S = some [x] ∧ 0 ≤ x ∧ x < S.ρ 5) : CtrOk Tryd.prog S (gsT ty) ⟨10, [gL, .one (.int .i64)], [.one (.int .i64)], 33, mayQ cds⟩ := by
  intro a ns hm he hl w hw
  subst hc
  obtain ⟨t, ht', hb⟩ := mayQ_in hm
  obtain ⟨x, hx, h0, h1⟩ := ht t ht'
  have q := may_args hb (List.all_eq_true.1 hok t ht') he
  rw [gCT_den hx] at q
  obtain rfl := Option.some.inj q
  refine Calls.mono (anyB ty g x h0 h1 w hw) fun e w' ⟨q1, q2⟩ => ⟨?_, q2⟩
  rw [q1, ← g.btF x]; rfl
theorem cR_ok (ty : TypeId) {S : Sy} (g : GeoS S) {ts : List Tm} {cds : List Nat} (hc : cds = ts.map fun t => (gCT t).enc) (hok : (ts.all fun t => (gCT t).ok) = true) (ht : ∀ t ∈ ts, ∃ x, t.den S = some [x] ∧ 0 ≤ x ∧ x < S.ρ 5) : CtrOk Tryd.prog S (gsT ty) ⟨44, [gL, .one (.int .i64)], [.one (.int .i64)], 34, mayQ cds⟩ := by
  intro a ns hm he hl w hw
  subst hc
  obtain ⟨t, ht', hb⟩ := mayQ_in hm
  obtain ⟨x, hx, h0, h1⟩ := ht t ht'
  have q := may_args hb (List.all_eq_true.1 hok t ht') he
  rw [gCT_den hx] at q
  obtain rfl := Option.some.inj q
  refine Calls.mono (anyR ty g x h0 h1 w hw) fun e w' ⟨q1, q2⟩ => ⟨?_, q2⟩
  rw [q1, ← g.rmF x]; rfl
def valT : Value := .agg #[.int .i64 8, .int .i64 8, .int .i64 8, .int .i64 16, .int .i64 16, .int .i64 4, .int .i64 24, .int .i64 8, .int .i64 2, .int .i64 32, .int .i64 32, .int .i64 2]
def cTb : Ctr := ⟨21, [], [.val valT], 31, fun _ => true⟩
theorem cTb_ok (ty : TypeId) (S : Sy) : CtrOk Tryd.prog S (gsT ty) cTb := by
  intro a ns _ _ hl w hw
  obtain rfl := len0 (show ns.length = 0 from hl)
  refine Calls.mono ((KnOk.run env (n := 1000) (x := ⟨21, #[], valT⟩) (by kernel_rfl) (fun G => by kernel_rfl) hw).now hw.room) fun e w' ⟨h1, h2⟩ => ⟨?_, h2⟩
  rw [h1]; rfl
def tsP0 : List Tm := [.var .i64 17, .var .i64 23, .var .i64 45, .lit .i64 0]
def cdsP0 : List Nat := [41329622704458370332159422647924467665724347596348589649910520855992421063277202531056301225462386098514301981481394309009194512205103112639941331469607398889433621984359556031038728302650010385755766637234742446008443879343428496873370190391691269275512689753384726584, 41329622704458370332159422647924467665724347596348589649910520855992421063277202531056301614479470681107391842019631530055552419621937385368400706062482057388134691944498281003574567093630724904307636446683728295553857199197363611267885888575786931261306758644902572088, 82659245408916740664318845295848935331448695192697179299821041711984842126554405062112603163673608570297907473714599709258191430441283624825794409858138511742385595725805238125123795302716437141181492101883379315239700483050016623918154263775278002102260521296174953016, 40360959672322627277499436179613737954808933199559169579990743023430098694606643096734669550887431771084775990200372943140903640949858853440512619167574580917488123486825101214931113572572572555272076244568506154441425314989618663314572664389131702086979736805219384]
theorem cdsP0_eq : cdsP0 = tsP0.map fun t => (gCT t).enc := by kernel_rfl
def tsP1 : List Tm := [.var .i64 17, .var .i64 23, .var .i64 45, .lit .i64 0, .var .i64 66]
def cdsP1 : List Nat := [41329622704458370332159422647924467665724347596348589649910520855992421063277202531056301225462386098514301981481394309009194512205103112639941331469607398889433621984359556031038728302650010385755766637234742446008443879343428496873370190391691269275512689753384726584, 41329622704458370332159422647924467665724347596348589649910520855992421063277202531056301614479470681107391842019631530055552419621937385368400706062482057388134691944498281003574567093630724904307636446683728295553857199197363611267885888575786931261306758644902572088, 82659245408916740664318845295848935331448695192697179299821041711984842126554405062112603163673608570297907473714599709258191430441283624825794409858138511742385595725805238125123795302716437141181492101883379315239700483050016623918154263775278002102260521296174953016, 40360959672322627277499436179613737954808933199559169579990743023430098694606643096734669550887431771084775990200372943140903640949858853440512619167574580917488123486825101214931113572572572555272076244568506154441425314989618663314572664389131702086979736805219384, 165318490817833481328637690591697870662897390385394358599642083423969684253108810124225204770829726782072094215471535945886434831047448977159500645012551928622642007593372719306431330454058602243395157490769350126207563612034268667686439647449726549414069773590847730744]
theorem cdsP1_eq : cdsP1 = tsP1.map fun t => (gCT t).enc := by kernel_rfl
def tsB : List Tm := [.var .i64 17, .var .i64 23]
def cdsB : List Nat := [41329622704458370332159422647924467665724347596348589649910520855992421063277202531056301225462386098514301981481394309009194512205103112639941331469607398889433621984359556031038728302650010385755766637234742446008443879343428496873370190391691269275512689753384726584, 41329622704458370332159422647924467665724347596348589649910520855992421063277202531056301614479470681107391842019631530055552419621937385368400706062482057388134691944498281003574567093630724904307636446683728295553857199197363611267885888575786931261306758644902572088]
theorem cdsB_eq : cdsB = tsB.map fun t => (gCT t).enc := by kernel_rfl
noncomputable def csL0 : List Ctr := [cLg, ⟨43, [gL, .one (.int .i64)], [.one (.int .i64)], 32, mayQ cdsP0⟩, ⟨10, [gL, .one (.int .i64)], [.one (.int .i64)], 33, mayQ cdsB⟩, ⟨44, [gL, .one (.int .i64)], [.one (.int .i64)], 34, mayQ cdsB⟩, cTb]
set_option maxHeartbeats 4000000 in
theorem csL0_ok (ty : TypeId) {T : Sy} (R : RNm T (T.ρ 17)) : ∀ c ∈ csL0, CtrOk Tryd.prog T (gsT ty) c := by
  have hn := R.geo.n; have hw := R.geo.w; have e23 := R.e23; have e24 := R.e24; have e45 := R.e45; have e66 := R.e66; have e70 := R.e70
  have hB : ∀ t ∈ tsB, ∃ x, t.den T = some [x] ∧ 0 ≤ x ∧ x < T.ρ 5 := fun t ht => by
    simp only [tsB, List.mem_cons, List.not_mem_nil, or_false] at ht
    rcases ht with rfl | rfl
    · exact ⟨T.ρ 17, rfl, by omega, by omega⟩
    · exact ⟨T.ρ 23, rfl, by omega, by omega⟩
  intro c hc
  simp only [csL0, List.mem_cons, List.not_mem_nil, or_false] at hc
  rcases hc with rfl | rfl | rfl | rfl | rfl
  · exact cLg_ok ty R.geo (by omega) (by omega)
  · refine cP_ok ty R.geo cdsP0_eq (by kernel_rfl) fun t ht => ?_
    simp only [tsP0, List.mem_cons, List.not_mem_nil, or_false] at ht
    rcases ht with rfl | rfl | rfl | rfl
    · exact ⟨T.ρ 17, rfl, by omega, by omega⟩
    · exact ⟨T.ρ 23, rfl, by omega, by omega⟩
    · exact ⟨T.ρ 45, rfl, by omega, by omega⟩
    · exact ⟨0, rfl, by omega, by omega⟩
  · exact cB_ok ty R.geo cdsB_eq (by kernel_rfl) hB
  · exact cR_ok ty R.geo cdsB_eq (by kernel_rfl) hB
  · exact cTb_ok ty T
noncomputable def csL1 : List Ctr := [cLg, ⟨43, [gL, .one (.int .i64)], [.one (.int .i64)], 32, mayQ cdsP1⟩, ⟨10, [gL, .one (.int .i64)], [.one (.int .i64)], 33, mayQ cdsB⟩, ⟨44, [gL, .one (.int .i64)], [.one (.int .i64)], 34, mayQ cdsB⟩, cTb]
set_option maxHeartbeats 4000000 in
theorem csL1_ok (ty : TypeId) {T : Sy} (R : RNm T (T.ρ 17)) (hl : 1 ≤ T.ρ 5 - T.ρ 17 - 1) : ∀ c ∈ csL1, CtrOk Tryd.prog T (gsT ty) c := by
  have hn := R.geo.n; have hw := R.geo.w; have e23 := R.e23; have e24 := R.e24; have e45 := R.e45; have e66 := R.e66; have e70 := R.e70
  have hB : ∀ t ∈ tsB, ∃ x, t.den T = some [x] ∧ 0 ≤ x ∧ x < T.ρ 5 := fun t ht => by
    simp only [tsB, List.mem_cons, List.not_mem_nil, or_false] at ht
    rcases ht with rfl | rfl
    · exact ⟨T.ρ 17, rfl, by omega, by omega⟩
    · exact ⟨T.ρ 23, rfl, by omega, by omega⟩
  intro c hc
  simp only [csL1, List.mem_cons, List.not_mem_nil, or_false] at hc
  rcases hc with rfl | rfl | rfl | rfl | rfl
  · exact cLg_ok ty R.geo (by omega) (by omega)
  · refine cP_ok ty R.geo cdsP1_eq (by kernel_rfl) fun t ht => ?_
    simp only [tsP1, List.mem_cons, List.not_mem_nil, or_false] at ht
    rcases ht with rfl | rfl | rfl | rfl | rfl
    · exact ⟨T.ρ 17, rfl, by omega, by omega⟩
    · exact ⟨T.ρ 23, rfl, by omega, by omega⟩
    · exact ⟨T.ρ 45, rfl, by omega, by omega⟩
    · exact ⟨0, rfl, by omega, by omega⟩
    · exact ⟨T.ρ 66, rfl, by omega, by omega⟩
  · exact cB_ok ty R.geo cdsB_eq (by kernel_rfl) hB
  · exact cR_ok ty R.geo cdsB_eq (by kernel_rfl) hB
  · exact cTb_ok ty T
end Go.Proofs.YtgokpcaijabhoaaDoor
