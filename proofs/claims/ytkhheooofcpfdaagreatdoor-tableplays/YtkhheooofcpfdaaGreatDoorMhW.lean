/- Offer of package table, where there is a flow of the key: the region of the step. -/
import Derived.Test.YtkhheooofcpfdaaGreatDoorMhN
import Derived.Test.YtkhheooofcpfdaaGreatDoorMgC
import Derived.Deep.CutRange
import Derived.Deep.DeepMust
import Derived.Deep.DeepCutAuto
import Derived.Test.YtkhheooofcpfdaaGreatDoorMgQ
import Derived.Test.YtkhheooofcpfdaaGreatDoorMgR
import Derived.Test.YtkhheooofcpfdaaGreatDoorMhF
namespace Go.Proofs.YtkhheooofcpfdaaGreatDoor
open Go.RowKit Go.Maps
set_option linter.unusedVariables false
def regAt (n:Nat):Code→Option Code
 | .seq a b=>match regAt n a with
  | some c=>some c
  | none=>regAt n b
 | .loop a=>regAt n a
 | .block _ a=>regAt n a
 | .cond _ a b=>match regAt n a with
  | some c=>some c
  | none=>regAt n b
 | .region m ops d=>match Nat.beq m n with
  | true=>some (.region m ops d)
  | false=>none
 | _=>none
theorem then_of (K:Act→World→Prop) (E:Exit→Act→World→Prop):∀ e a w,Exit.then K (fun _ _ _=>False) e a w→Exit.then K E e a w:=by
 intro e a w h
 cases e <;> first|exact h|exact h.elim
noncomputable def ofReg (n:Nat):Code:=(regAt n (Tryz.f11.body.getD .skip)).getD .skip
set_option maxRecDepth 100000 in
set_option maxHeartbeats 32000000 in
theorem e_r7 (Y KX SX:Nat) (F F':Fl) (k:Ky) (s:Sg) (a:Option Addr) (l c:Nat) (sd now:Int) (ev:Value) (S:World→Prop) (W0:World) (K:Act→World→Prop) (E:Exit→Act→World→Prop) (ops:Array Oper) (p0 p1 p2 p3 p4 p5 p6 p7 p8 p9 p10 p11 p12:String) (q0 q1 q2 q3 q4 q5 q6 q7 q8 q9 q10 q11 q12:Array Edge)
  (o0:ops[0]? = some { dst:=some 35,op:=.load 45 (.tmp 13),type:=45,pos:=p0,after:=q0,guard:=none })
  (o1:ops[1]? = some { dst:=some 36,op:=.load 41 (.tmp 6),type:=41,pos:=p1,after:=q1,guard:=none })
  (o2:ops[2]? = some { dst:=some 37,op:=.load 45 (.tmp 13),type:=45,pos:=p2,after:=q2,guard:=none })
  (o3:ops[3]? = some { dst:=some 38,op:=.load 37 (.tmp 5),type:=37,pos:=p3,after:=q3,guard:=none })
  (o4:ops[4]? = some { dst:=some 39,op:=.load 41 (.tmp 6),type:=41,pos:=p4,after:=q4,guard:=none })
  (o5:ops[5]? = some { dst:=some 40,op:=.call { callee:=.value (.func 36),args:=#[.tmp 37,.tmp 38,.tmp 39],argTypes:=#[45,37,41] },type:=3,pos:=p5,after:=q5,guard:=none })
  (o6:ops[6]? = some { dst:=some 41,op:=.move (.tmp 3),type:=3,pos:=p6,after:=q6,guard:=none })
  (o7:ops[7]? = some { dst:=some 42,op:=.call { callee:=.value (.func 35),args:=#[.tmp 35,.tmp 36,.tmp 40,.tmp 41],argTypes:=#[45,41,3,3] },type:=48,pos:=p7,after:=q7,guard:=none })
  (o8:ops[8]? = some { dst:=some 34,op:=.move (.tmp 42),type:=48,pos:=p8,after:=q8,guard:=none })
  (o9:ops[9]? = some { dst:=some 43,op:=.extract (.tmp 34) 0,type:=45,pos:=p9,after:=q9,guard:=none })
  (o10:ops[10]? = some { dst:=some 44,op:=.extract (.tmp 34) 1,type:=27,pos:=p10,after:=q10,guard:=none })
  (o11:ops[11]? = some { dst:=none,op:=.store 45 (.tmp 13) (.tmp 43),type:=0,pos:=p11,after:=q11,guard:=none })
  (o12:ops[12]? = some { dst:=some 12,op:=.assign (.tmp 44),type:=27,pos:=p12,after:=q12,guard:=none })
  (nS:Region.noSelect ops=true)
  (w0:waitsB .any ops 11 0=true)
  (f0:Region.free .any ops #[false,false,false,false,false,false,false,false,false,false,false,false,false] 0=true)
  (r0:(Region.ready .any ops #[false,false,false,false,false,false,false,false,false,false,false,false,false]).contains 0=true)
  (w1:waitsB .any ops 11 1=true)
  (f1:Region.free .any ops #[true,false,false,false,false,false,false,false,false,false,false,false,false] 1=true)
  (r1:(Region.ready .any ops #[true,false,false,false,false,false,false,false,false,false,false,false,false]).contains 1=true)
  (w2:waitsB .any ops 11 2=true)
  (f2:Region.free .any ops #[true,true,false,false,false,false,false,false,false,false,false,false,false] 2=true)
  (r2:(Region.ready .any ops #[true,true,false,false,false,false,false,false,false,false,false,false,false]).contains 2=true)
  (w3:waitsB .any ops 11 3=true)
  (f3:Region.free .any ops #[true,true,true,false,false,false,false,false,false,false,false,false,false] 3=true)
  (r3:(Region.ready .any ops #[true,true,true,false,false,false,false,false,false,false,false,false,false]).contains 3=true)
  (w4:waitsB .any ops 11 4=true)
  (f4:Region.free .any ops #[true,true,true,true,false,false,false,false,false,false,false,false,false] 4=true)
  (r4:(Region.ready .any ops #[true,true,true,true,false,false,false,false,false,false,false,false,false]).contains 4=true)
  (w6:waitsB .any ops 11 6=true)
  (f6:Region.free .any ops #[true,true,true,true,true,false,false,false,false,false,false,false,false] 6=true)
  (r6:(Region.ready .any ops #[true,true,true,true,true,false,false,false,false,false,false,false,false]).contains 6=true)
  (r5:Region.ready .any ops #[true,true,true,true,true,false,true,false,false,false,false,false,false]=[5])
  (r7:Region.ready .any ops #[true,true,true,true,true,true,true,false,false,false,false,false,false]=[7])
  (f8:Region.free .any ops #[true,true,true,true,true,true,true,true,false,false,false,false,false] 8=true)
  (r8:(Region.ready .any ops #[true,true,true,true,true,true,true,true,false,false,false,false,false]).contains 8=true)
  (f9:Region.free .any ops #[true,true,true,true,true,true,true,true,true,false,false,false,false] 9=true)
  (r9:(Region.ready .any ops #[true,true,true,true,true,true,true,true,true,false,false,false,false]).contains 9=true)
  (f10:Region.free .any ops #[true,true,true,true,true,true,true,true,true,true,false,false,false] 10=true)
  (r10:(Region.ready .any ops #[true,true,true,true,true,true,true,true,true,true,false,false,false]).contains 10=true)
  (r11:Region.ready .any ops #[true,true,true,true,true,true,true,true,true,true,true,false,false]=[11])
  (f12:Region.free .any ops #[true,true,true,true,true,true,true,true,true,true,true,true,false] 12=true)
  (r12:(Region.ready .any ops #[true,true,true,true,true,true,true,true,true,true,true,true,false]).contains 12=true)
  (rd:Region.ready .any ops #[true,true,true,true,true,true,true,true,true,true,true,true,true]=[])
  (hE:∀ ch (x:Act) (d:Option Tmp) (v:Value) (w:World),E (.panic ch) (x.put d v) w→E (.panic ch) x w) (hS0:S W0.drew) (hSb:∀ W W',S W→Below W.heap.size W W'→S W') (hF:∀ W,S W→FlAt W Y F) (hKy:∀ W,S W→KyAt W KX k) (hSg:∀ W,S W→SgAt W SX s (.slice a l c))
  (hcs:∀ W,S W→Calls Tryz.prog 36 #[.agg #[.int .i64 F.key.kind,.int .i64 F.key.src,.int .i64 F.key.frm,.int .i64 F.key.dst,.int .i64 F.key.too,.int .i64 F.st,.int .i64 F.unt,.int .i64 F.stp,.int .i64 F.h0,.int .i64 F.h1,.int .i64 F.w0,.int .i64 F.w1,.bool F.d0,.bool F.d1,.int .i64 F.num],.agg #[.int .i64 k.kind,.int .i64 k.src,.int .i64 k.frm,.int .i64 k.dst,.int .i64 k.too],.agg #[.int .i64 s.frm,.int .i64 s.too,.int .i64 s.seq,.int .i64 s.ack,.int .i64 s.win,.int .i64 s.flg,.slice a l c]] W fun e w'=>e = .returned (.int .i64 sd)∧Below W.heap.size W w')
  (hct:∀ W,S W→Calls Tryz.prog 35 #[.agg #[.int .i64 F.key.kind,.int .i64 F.key.src,.int .i64 F.key.frm,.int .i64 F.key.dst,.int .i64 F.key.too,.int .i64 F.st,.int .i64 F.unt,.int .i64 F.stp,.int .i64 F.h0,.int .i64 F.h1,.int .i64 F.w0,.int .i64 F.w1,.bool F.d0,.bool F.d1,.int .i64 F.num],.agg #[.int .i64 s.frm,.int .i64 s.too,.int .i64 s.seq,.int .i64 s.ack,.int .i64 s.win,.int .i64 s.flg,.slice a l c],.int .i64 sd,.int .i64 now] W fun e w'=>e = .returned (.tuple #[.agg #[.int .i64 F'.key.kind,.int .i64 F'.key.src,.int .i64 F'.key.frm,.int .i64 F'.key.dst,.int .i64 F'.key.too,.int .i64 F'.st,.int .i64 F'.unt,.int .i64 F'.stp,.int .i64 F'.h0,.int .i64 F'.h1,.int .i64 F'.w0,.int .i64 F'.w1,.bool F'.d0,.bool F'.d1,.int .i64 F'.num],ev])∧Below W.heap.size W w')
  (v0 v1 v2 v4 v7 v8 v9 v10 v11 v12 v14 v15 v16 v17 v18 v19 v20 v21 v22 v23 v24 v25 v26 v27 v28 v29 v30 v31 v32 v33 v34 v35 v36 v37 v38 v39 v40 v41 v42 v43 v44 v45 v46 v47 v48 v49 v50 v51 v52 v53 v54 v55 v56 v57:Value)
  (hK:∀ (W9:World) (u34 u35 u36 u37 u38 u39 u40 u41 u42 u43 u44:Value),(∃ W7,S W7∧Only Y W7 W9)→FlAt W9 Y F'→K { tmps:=#[v0,v1,v2,.int .i64 now,v4,.pointer (some ⟨KX,0,none⟩),.pointer (some ⟨SX,0,none⟩),v7,v8,v9,v10,v11,ev,.pointer (some ⟨Y,0,none⟩),v14,v15,v16,v17,v18,v19,v20,v21,v22,v23,v24,v25,v26,v27,v28,v29,v30,v31,v32,v33,u34,u35,u36,u37,u38,u39,u40,u41,u42,u43,u44,v45,v46,v47,v48,v49,v50,v51,v52,v53,v54,v55,v56,v57],defers:=[] } W9) :
  AnyE Tryz.prog .any ops (Exit.then K E) S 11 13 #[false,false,false,false,false,false,false,false,false,false,false,false,false] { tmps:=#[v0,v1,v2,.int .i64 now,v4,.pointer (some ⟨KX,0,none⟩),.pointer (some ⟨SX,0,none⟩),v7,v8,v9,v10,v11,v12,.pointer (some ⟨Y,0,none⟩),v14,v15,v16,v17,v18,v19,v20,v21,v22,v23,v24,v25,v26,v27,v28,v29,v30,v31,v32,v33,v34,v35,v36,v37,v38,v39,v40,v41,v42,v43,v44,v45,v46,v47,v48,v49,v50,v51,v52,v53,v54,v55,v56,v57],defers:=[] } W0.drew:=by
 have HK:=hidE hK
 have HE:=hidE hE
 have HS5:=hidE hS0
 have HSB:=hidE hSb
 have HF:=hidE hF
 have HKY:=hidE hKy
 have HSG:=hidE hSg
 have HCS:=hidE hcs
 have HCT:=hidE hct
 clear hE hS0 hSb hF hKy hSg hcs hct hK
 refine E_take 0 (v:=?_) #[true,false,false,false,false,false,false,false,false,false,false,false,false] o0 (by kernel_rfl) w0 nS f0 r0 (by kernel_rfl) (fun _ _ _ h=>HE.out _ _ _ _ _ h) (Or.inl ⟨by rfl,?_⟩) HS5.out (by kernel_rfl) ?_
 rotate_left
 ·intro W hSw
  obtain ⟨d0,d1,d2,d3,d4,d5,d6,d7,d8,d9,d10,d11,d12,d13,d14⟩:=(HF.out W hSw).cells
  go_simp
  try with_reducible rfl
 simp only [Act.put,List.setIfInBounds_toArray,List.set_cons_zero,List.set_cons_succ]
 refine E_take 1 (v:=?_) #[true,true,false,false,false,false,false,false,false,false,false,false,false] o1 (by kernel_rfl) w1 nS f1 r1 (by kernel_rfl) (fun _ _ _ h=>HE.out _ _ _ _ _ h) (Or.inl ⟨by rfl,?_⟩) HS5.out (by kernel_rfl) ?_
 rotate_left
 ·intro W hSw
  obtain ⟨g0,g1,g2,g3,g4,g5,g6⟩:=(HSG.out W hSw).cells
  go_simp
  try with_reducible rfl
 simp only [Act.put,List.setIfInBounds_toArray,List.set_cons_zero,List.set_cons_succ]
 refine E_take 2 (v:=?_) #[true,true,true,false,false,false,false,false,false,false,false,false,false] o2 (by kernel_rfl) w2 nS f2 r2 (by kernel_rfl) (fun _ _ _ h=>HE.out _ _ _ _ _ h) (Or.inl ⟨by rfl,?_⟩) HS5.out (by kernel_rfl) ?_
 rotate_left
 ·intro W hSw
  obtain ⟨d0,d1,d2,d3,d4,d5,d6,d7,d8,d9,d10,d11,d12,d13,d14⟩:=(HF.out W hSw).cells
  go_simp
  try with_reducible rfl
 simp only [Act.put,List.setIfInBounds_toArray,List.set_cons_zero,List.set_cons_succ]
 refine E_take 3 (v:=?_) #[true,true,true,true,false,false,false,false,false,false,false,false,false] o3 (by kernel_rfl) w3 nS f3 r3 (by kernel_rfl) (fun _ _ _ h=>HE.out _ _ _ _ _ h) (Or.inl ⟨by rfl,?_⟩) HS5.out (by kernel_rfl) ?_
 rotate_left
 ·intro W hSw
  obtain ⟨k0,k1,k2,k3,k4⟩:=(HKY.out W hSw).cells
  go_simp
  try with_reducible rfl
 simp only [Act.put,List.setIfInBounds_toArray,List.set_cons_zero,List.set_cons_succ]
 refine E_take 4 (v:=?_) #[true,true,true,true,true,false,false,false,false,false,false,false,false] o4 (by kernel_rfl) w4 nS f4 r4 (by kernel_rfl) (fun _ _ _ h=>HE.out _ _ _ _ _ h) (Or.inl ⟨by rfl,?_⟩) HS5.out (by kernel_rfl) ?_
 rotate_left
 ·intro W hSw
  obtain ⟨g0,g1,g2,g3,g4,g5,g6⟩:=(HSG.out W hSw).cells
  go_simp
  try with_reducible rfl
 simp only [Act.put,List.setIfInBounds_toArray,List.set_cons_zero,List.set_cons_succ]
 refine E_take 6 (v:=?_) #[true,true,true,true,true,false,true,false,false,false,false,false,false] o6 (by kernel_rfl) w6 nS f6 r6 (by kernel_rfl) (fun _ _ _ h=>HE.out _ _ _ _ _ h) (Or.inl ⟨by rfl,?_⟩) HS5.out (by kernel_rfl) ?_
 rotate_left
 ·intro W hSw
  go_simp
  try with_reducible rfl
 simp only [Act.put,List.setIfInBounds_toArray,List.set_cons_zero,List.set_cons_succ]
 have hs5:=HCS.out W0.drew HS5.out
 refine E_oneG 5 #[true,true,true,true,true,true,true,false,false,false,false,false,false] o5 rfl r5 (by kernel_rfl) (fun K2 hK2=>?_)
 go_wp2_with (go_at_call 36;go_must (with_reducible refine hs5.mono ?_;rintro e W6 ⟨rfl,b6⟩))
 have HS6:=hidE (HSB.out _ _ HS5.out b6)
 refine hK2.out _ _ (.inr HS6.out) ?_
 clear hK2 K2 b6 hs5 HS5
 have hs6:=HCT.out W6 HS6.out
 refine E_oneG 7 #[true,true,true,true,true,true,true,true,false,false,false,false,false] o7 rfl r7 (by kernel_rfl) (fun K2 hK2=>?_)
 go_wp2_with (go_at_call 35;go_must (with_reducible refine hs6.mono ?_;rintro e W7 ⟨rfl,b7⟩))
 have HS7:=hidE (HSB.out _ _ HS6.out b7)
 refine hK2.out _ _ (.inr HS7.out) ?_
 clear hK2 K2 b7 hs6 HS6
 refine E_free 8 (v:=?_) #[true,true,true,true,true,true,true,true,true,false,false,false,false] o8 (by kernel_rfl) nS f8 r8 (fun _ _ _ h=>HE.out _ _ _ _ _ h) (Or.inl ⟨by rfl,?_⟩) (.inr HS7.out) (by kernel_rfl) ?_
 rotate_left
 ·intro W _
  go_simp
  try with_reducible rfl
 simp only [Act.put,List.setIfInBounds_toArray,List.set_cons_zero,List.set_cons_succ]
 refine E_free 9 (v:=?_) #[true,true,true,true,true,true,true,true,true,true,false,false,false] o9 (by kernel_rfl) nS f9 r9 (fun _ _ _ h=>HE.out _ _ _ _ _ h) (Or.inl ⟨by rfl,?_⟩) (.inr HS7.out) (by kernel_rfl) ?_
 rotate_left
 ·intro W _
  go_simp
  try with_reducible rfl
 simp only [Act.put,List.setIfInBounds_toArray,List.set_cons_zero,List.set_cons_succ]
 refine E_free 10 (v:=?_) #[true,true,true,true,true,true,true,true,true,true,true,false,false] o10 (by kernel_rfl) nS f10 r10 (fun _ _ _ h=>HE.out _ _ _ _ _ h) (Or.inl ⟨by rfl,?_⟩) (.inr HS7.out) (by kernel_rfl) ?_
 rotate_left
 ·intro W _
  go_simp
  try with_reducible rfl
 simp only [Act.put,List.setIfInBounds_toArray,List.set_cons_zero,List.set_cons_succ]
 have p7:=HF.out W7 HS7.out
 obtain ⟨y0,y1,y2,y3,y4,y5,y6,y7',y8',y9,y10',y11',y12',y13,y14⟩:=p7.frees
 obtain ⟨d0,d1,d2,d3,d4,d5,d6,d7,d8,d9,d10,d11,d12,d13,d14⟩:=p7.cells
 obtain ⟨W8,hW8,g8,o8'⟩:=p7.store F'
 have HG8:=hidE g8
 have HO8:=hidE o8'
 clear g8 o8' p7
 refine E_oneG 11 #[true,true,true,true,true,true,true,true,true,true,true,true,false] o11 rfl r11 (by kernel_rfl) (fun K2 hK2=>?_)
 go_wp2_with fail
 try rw [hW8]
 refine hK2.out _ _ (.inl (by kernel_rfl)) ?_
 clear hK2 K2 hW8 y0 y1 y2 y3 y4 y5 y6 y7' y8' y9 y10' y11' y12' y13 y14 d0 d1 d2 d3 d4 d5 d6 d7 d8 d9 d10 d11 d12 d13 d14
 refine E_free 12 (v:=?_) #[true,true,true,true,true,true,true,true,true,true,true,true,true] o12 (by kernel_rfl) nS f12 r12 (fun _ _ _ h=>HE.out _ _ _ _ _ h) (Or.inl ⟨by rfl,?_⟩) (.inl (by kernel_rfl)) (by kernel_rfl) ?_
 rotate_left
 ·intro W _
  go_simp
  try with_reducible rfl
 simp only [Act.put,List.setIfInBounds_toArray,List.set_cons_zero,List.set_cons_succ]
 refine E_done rd ?_ _
 exact HK.out _ _ _ _ _ _ _ _ _ _ _ _ ⟨_,HS7.out,HO8.out⟩ HG8.out
noncomputable def ofOps7:Array Oper:=match ofReg 7 with
 | .region _ ops _=>ops
 | _=>#[]
theorem of7_is:ofReg 7 = .region 7 ofOps7 true:=by kernel_rfl
theorem of7_size:ofOps7.size=13:=by kernel_rfl
theorem of7_nS:Region.noSelect ofOps7=true:=by kernel_rfl
theorem of7_w0:waitsB .any ofOps7 11 0=true:=by kernel_rfl
theorem of7_f0:Region.free .any ofOps7 #[false,false,false,false,false,false,false,false,false,false,false,false,false] 0=true:=by kernel_rfl
theorem of7_r0:(Region.ready .any ofOps7 #[false,false,false,false,false,false,false,false,false,false,false,false,false]).contains 0=true:=by kernel_rfl
theorem of7_w1:waitsB .any ofOps7 11 1=true:=by kernel_rfl
theorem of7_f1:Region.free .any ofOps7 #[true,false,false,false,false,false,false,false,false,false,false,false,false] 1=true:=by kernel_rfl
theorem of7_r1:(Region.ready .any ofOps7 #[true,false,false,false,false,false,false,false,false,false,false,false,false]).contains 1=true:=by kernel_rfl
theorem of7_w2:waitsB .any ofOps7 11 2=true:=by kernel_rfl
theorem of7_f2:Region.free .any ofOps7 #[true,true,false,false,false,false,false,false,false,false,false,false,false] 2=true:=by kernel_rfl
theorem of7_r2:(Region.ready .any ofOps7 #[true,true,false,false,false,false,false,false,false,false,false,false,false]).contains 2=true:=by kernel_rfl
theorem of7_w3:waitsB .any ofOps7 11 3=true:=by kernel_rfl
theorem of7_f3:Region.free .any ofOps7 #[true,true,true,false,false,false,false,false,false,false,false,false,false] 3=true:=by kernel_rfl
theorem of7_r3:(Region.ready .any ofOps7 #[true,true,true,false,false,false,false,false,false,false,false,false,false]).contains 3=true:=by kernel_rfl
theorem of7_w4:waitsB .any ofOps7 11 4=true:=by kernel_rfl
theorem of7_f4:Region.free .any ofOps7 #[true,true,true,true,false,false,false,false,false,false,false,false,false] 4=true:=by kernel_rfl
theorem of7_r4:(Region.ready .any ofOps7 #[true,true,true,true,false,false,false,false,false,false,false,false,false]).contains 4=true:=by kernel_rfl
theorem of7_w6:waitsB .any ofOps7 11 6=true:=by kernel_rfl
theorem of7_f6:Region.free .any ofOps7 #[true,true,true,true,true,false,false,false,false,false,false,false,false] 6=true:=by kernel_rfl
theorem of7_r6:(Region.ready .any ofOps7 #[true,true,true,true,true,false,false,false,false,false,false,false,false]).contains 6=true:=by kernel_rfl
theorem of7_r5:Region.ready .any ofOps7 #[true,true,true,true,true,false,true,false,false,false,false,false,false]=[5]:=by kernel_rfl
theorem of7_r7:Region.ready .any ofOps7 #[true,true,true,true,true,true,true,false,false,false,false,false,false]=[7]:=by kernel_rfl
theorem of7_f8:Region.free .any ofOps7 #[true,true,true,true,true,true,true,true,false,false,false,false,false] 8=true:=by kernel_rfl
theorem of7_r8:(Region.ready .any ofOps7 #[true,true,true,true,true,true,true,true,false,false,false,false,false]).contains 8=true:=by kernel_rfl
theorem of7_f9:Region.free .any ofOps7 #[true,true,true,true,true,true,true,true,true,false,false,false,false] 9=true:=by kernel_rfl
theorem of7_r9:(Region.ready .any ofOps7 #[true,true,true,true,true,true,true,true,true,false,false,false,false]).contains 9=true:=by kernel_rfl
theorem of7_f10:Region.free .any ofOps7 #[true,true,true,true,true,true,true,true,true,true,false,false,false] 10=true:=by kernel_rfl
theorem of7_r10:(Region.ready .any ofOps7 #[true,true,true,true,true,true,true,true,true,true,false,false,false]).contains 10=true:=by kernel_rfl
theorem of7_r11:Region.ready .any ofOps7 #[true,true,true,true,true,true,true,true,true,true,true,false,false]=[11]:=by kernel_rfl
theorem of7_f12:Region.free .any ofOps7 #[true,true,true,true,true,true,true,true,true,true,true,true,false] 12=true:=by kernel_rfl
theorem of7_r12:(Region.ready .any ofOps7 #[true,true,true,true,true,true,true,true,true,true,true,true,false]).contains 12=true:=by kernel_rfl
theorem of7_rd:Region.ready .any ofOps7 #[true,true,true,true,true,true,true,true,true,true,true,true,true]=[]:=by kernel_rfl
set_option maxRecDepth 100000 in
set_option maxHeartbeats 32000000 in
theorem of_r7 (Y KX SX:Nat) (F F':Fl) (k:Ky) (s:Sg) (a:Option Addr) (l c:Nat) (sd now:Int) (ev:Value) (S:World→Prop) (W0:World) (K:Act→World→Prop) (E:Exit→Act→World→Prop) (C:Code) (hC:C=ofReg 7)
  (hS0:S W0.drew) (hSb:∀ W W',S W→Below W.heap.size W W'→S W') (hF:∀ W,S W→FlAt W Y F) (hKy:∀ W,S W→KyAt W KX k) (hSg:∀ W,S W→SgAt W SX s (.slice a l c))
  (hcs:∀ W,S W→Calls Tryz.prog 36 #[.agg #[.int .i64 F.key.kind,.int .i64 F.key.src,.int .i64 F.key.frm,.int .i64 F.key.dst,.int .i64 F.key.too,.int .i64 F.st,.int .i64 F.unt,.int .i64 F.stp,.int .i64 F.h0,.int .i64 F.h1,.int .i64 F.w0,.int .i64 F.w1,.bool F.d0,.bool F.d1,.int .i64 F.num],.agg #[.int .i64 k.kind,.int .i64 k.src,.int .i64 k.frm,.int .i64 k.dst,.int .i64 k.too],.agg #[.int .i64 s.frm,.int .i64 s.too,.int .i64 s.seq,.int .i64 s.ack,.int .i64 s.win,.int .i64 s.flg,.slice a l c]] W fun e w'=>e = .returned (.int .i64 sd)∧Below W.heap.size W w')
  (hct:∀ W,S W→Calls Tryz.prog 35 #[.agg #[.int .i64 F.key.kind,.int .i64 F.key.src,.int .i64 F.key.frm,.int .i64 F.key.dst,.int .i64 F.key.too,.int .i64 F.st,.int .i64 F.unt,.int .i64 F.stp,.int .i64 F.h0,.int .i64 F.h1,.int .i64 F.w0,.int .i64 F.w1,.bool F.d0,.bool F.d1,.int .i64 F.num],.agg #[.int .i64 s.frm,.int .i64 s.too,.int .i64 s.seq,.int .i64 s.ack,.int .i64 s.win,.int .i64 s.flg,.slice a l c],.int .i64 sd,.int .i64 now] W fun e w'=>e = .returned (.tuple #[.agg #[.int .i64 F'.key.kind,.int .i64 F'.key.src,.int .i64 F'.key.frm,.int .i64 F'.key.dst,.int .i64 F'.key.too,.int .i64 F'.st,.int .i64 F'.unt,.int .i64 F'.stp,.int .i64 F'.h0,.int .i64 F'.h1,.int .i64 F'.w0,.int .i64 F'.w1,.bool F'.d0,.bool F'.d1,.int .i64 F'.num],ev])∧Below W.heap.size W w')
  (v0 v1 v2 v4 v7 v8 v9 v10 v11 v12 v14 v15 v16 v17 v18 v19 v20 v21 v22 v23 v24 v25 v26 v27 v28 v29 v30 v31 v32 v33 v34 v35 v36 v37 v38 v39 v40 v41 v42 v43 v44 v45 v46 v47 v48 v49 v50 v51 v52 v53 v54 v55 v56 v57:Value)
  (hK:∀ (W9:World) (u34 u35 u36 u37 u38 u39 u40 u41 u42 u43 u44:Value),(∃ W7,S W7∧Only Y W7 W9)→FlAt W9 Y F'→K { tmps:=#[v0,v1,v2,.int .i64 now,v4,.pointer (some ⟨KX,0,none⟩),.pointer (some ⟨SX,0,none⟩),v7,v8,v9,v10,v11,ev,.pointer (some ⟨Y,0,none⟩),v14,v15,v16,v17,v18,v19,v20,v21,v22,v23,v24,v25,v26,v27,v28,v29,v30,v31,v32,v33,u34,u35,u36,u37,u38,u39,u40,u41,u42,u43,u44,v45,v46,v47,v48,v49,v50,v51,v52,v53,v54,v55,v56,v57],defers:=[] } W9) :
  Code.wp Tryz.prog C (Exit.then K E) { tmps:=#[v0,v1,v2,.int .i64 now,v4,.pointer (some ⟨KX,0,none⟩),.pointer (some ⟨SX,0,none⟩),v7,v8,v9,v10,v11,v12,.pointer (some ⟨Y,0,none⟩),v14,v15,v16,v17,v18,v19,v20,v21,v22,v23,v24,v25,v26,v27,v28,v29,v30,v31,v32,v33,v34,v35,v36,v37,v38,v39,v40,v41,v42,v43,v44,v45,v46,v47,v48,v49,v50,v51,v52,v53,v54,v55,v56,v57],defers:=[] } W0:=by
 subst hC
 rw [of7_is]
 refine wp_mono (Q:=Exit.then K fun _ _ _=>False) ?_ (then_of K E)
 refine wp_region_E S 11 13 #[false,false,false,false,false,false,false,false,false,false,false,false,false] (by kernel_rfl) of7_size rfl ?_
 exact e_r7 Y KX SX F F' k s a l c sd now ev S W0 K (fun _ _ _=>False) ofOps7 (ofOps7.getD 0 default).pos (ofOps7.getD 1 default).pos (ofOps7.getD 2 default).pos (ofOps7.getD 3 default).pos (ofOps7.getD 4 default).pos (ofOps7.getD 5 default).pos (ofOps7.getD 6 default).pos (ofOps7.getD 7 default).pos (ofOps7.getD 8 default).pos (ofOps7.getD 9 default).pos (ofOps7.getD 10 default).pos (ofOps7.getD 11 default).pos (ofOps7.getD 12 default).pos (ofOps7.getD 0 default).after (ofOps7.getD 1 default).after (ofOps7.getD 2 default).after (ofOps7.getD 3 default).after (ofOps7.getD 4 default).after (ofOps7.getD 5 default).after (ofOps7.getD 6 default).after (ofOps7.getD 7 default).after (ofOps7.getD 8 default).after (ofOps7.getD 9 default).after (ofOps7.getD 10 default).after (ofOps7.getD 11 default).after (ofOps7.getD 12 default).after (by kernel_rfl) (by kernel_rfl) (by kernel_rfl) (by kernel_rfl) (by kernel_rfl) (by kernel_rfl) (by kernel_rfl) (by kernel_rfl) (by kernel_rfl) (by kernel_rfl) (by kernel_rfl) (by kernel_rfl) (by kernel_rfl) of7_nS of7_w0 of7_f0 of7_r0 of7_w1 of7_f1 of7_r1 of7_w2 of7_f2 of7_r2 of7_w3 of7_f3 of7_r3 of7_w4 of7_f4 of7_r4 of7_w6 of7_f6 of7_r6 of7_r5 of7_r7 of7_f8 of7_r8 of7_f9 of7_r9 of7_f10 of7_r10 of7_r11 of7_f12 of7_r12 of7_rd (fun _ _ _ _ _ h=>h) hS0 hSb hF hKy hSg hcs hct _ _ _ _ _ _ _ _ _ _ _ _ _ _ _ _ _ _ _ _ _ _ _ _ _ _ _ _ _ _ _ _ _ _ _ _ _ _ _ _ _ _ _ _ _ _ _ _ _ _ _ _ _ _ hK
end Go.Proofs.YtkhheooofcpfdaaGreatDoor
namespace Go.Proofs.YtkhheooofcpfdaaGreatDoor
open Go.RowKit Go.Maps
set_option linter.unusedVariables false
set_option maxRecDepth 100000 in
set_option maxHeartbeats 32000000 in
theorem of_r10 (X KX Y m':Nat) (x0 x1:Value) (F:Fl) (k q:Ky) (P:World→Prop) (W0:World) (K:Act→World→Prop) (E:Exit→Act→World→Prop) (C:Code) (hC:C=ofReg 10)
    (hx:W0.heap[X]? = some (.cells #[x0,x1,.map (some m')] 76 (0,0))) (hk:KyAt W0 KX k) (hf:FlAt W0 Y F)
    (hcF:∀ W,Calls Tryz.prog 37 #[.agg #[.int .i64 k.kind,.int .i64 k.src,.int .i64 k.frm,.int .i64 k.dst,.int .i64 k.too]] W fun e w'=>e = .returned (.agg #[.int .i64 q.kind,.int .i64 q.src,.int .i64 q.frm,.int .i64 q.dst,.int .i64 q.too])∧Below W.heap.size W w')
    (hfin:∀ W,Below W0.heap.size W0 W→∃ W',(Instr.mapUpdate 72 (.map (some m')) (.agg #[.int .i64 q.kind,.int .i64 q.src,.int .i64 q.frm,.int .i64 q.dst,.int .i64 q.too]) (.agg #[.int .i64 F.key.kind,.int .i64 F.key.src,.int .i64 F.key.frm,.int .i64 F.key.dst,.int .i64 F.key.too,.int .i64 F.st,.int .i64 F.unt,.int .i64 F.stp,.int .i64 F.h0,.int .i64 F.h1,.int .i64 F.w0,.int .i64 F.w1,.bool F.d0,.bool F.d1,.int .i64 F.num])).run Tryz.prog W = .ok () W'∧W'.heap[X]? = W.heap[X]?∧W'.heap[KX]? = W.heap[KX]?∧W'.heap[Y]? = W.heap[Y]?∧P W')
    (v0 v1 v2 v3 v4 v6 v7 v8 v9 v11 v12 v14 v15 v16 v17 v18 v19 v20 v21 v22 v23 v24 v25 v26 v27 v28 v29 v30 v31 v32 v33 v34 v35 v36 v37 v38 v39 v40 v41 v42 v43 v44 v45 v46 v47 v48 v49 v50 v51 v52 v53 v54 v55 v56 v57:Value)
    (hK:∀ (W9:World) (u49 u50 u51 u52 u53:Value),P W9→K { tmps:=#[v0,v1,v2,v3,v4,.pointer (some ⟨KX,0,none⟩),v6,v7,v8,v9,.pointer (some ⟨X,0,none⟩),v11,v12,.pointer (some ⟨Y,0,none⟩),v14,v15,v16,v17,v18,v19,v20,v21,v22,v23,v24,v25,v26,v27,v28,v29,v30,v31,v32,v33,v34,v35,v36,v37,v38,v39,v40,v41,v42,v43,v44,v45,v46,v47,v48,u49,u50,u51,u52,u53,v54,v55,v56,v57],defers:=[] } W9) :
    Code.wp Tryz.prog C (Exit.then K E) { tmps:=#[v0,v1,v2,v3,v4,.pointer (some ⟨KX,0,none⟩),v6,v7,v8,v9,.pointer (some ⟨X,0,none⟩),v11,v12,.pointer (some ⟨Y,0,none⟩),v14,v15,v16,v17,v18,v19,v20,v21,v22,v23,v24,v25,v26,v27,v28,v29,v30,v31,v32,v33,v34,v35,v36,v37,v38,v39,v40,v41,v42,v43,v44,v45,v46,v47,v48,v49,v50,v51,v52,v53,v54,v55,v56,v57],defers:=[] } W0:=by
  subst hC
  conv =>
    arg 2
    unfold ofReg
    unfold Tryz.f11
    simp only [Option.getD_some,regAt]
  conv =>
    arg 4
    zeta
  try simp (maxSteps:=10000000) only at hK
  have HK:=hidE hK
  clear hK
  refine wp_mono (Q:=Exit.then K fun _ _ _=>False) ?_ (then_of K E)
  have HFN:=hidE hfin
  have HX:=hidE hx
  have HKY:=hidE hk
  have HF:=hidE hf
  obtain ⟨t0,t1,t2⟩:=tab_cells hx
  obtain ⟨k0,k1,k2,k3,k4⟩:=hk.cells
  obtain ⟨e0,e1,e2,e3,e4,e5,e6,e7,e8,e9,e10,e11,e12,e13,e14⟩:=hf.cells
  have hc0:=hcF W0.drew
  have hS:W0.cell? ⟨X,2,none⟩=some (.map (some m'))∧W0.cell? ⟨KX,0,none⟩=some (.int .i64 k.kind)∧W0.cell? ⟨KX,1,none⟩=some (.int .i64 k.src)∧W0.cell? ⟨KX,2,none⟩=some (.int .i64 k.frm)∧W0.cell? ⟨KX,3,none⟩=some (.int .i64 k.dst)∧W0.cell? ⟨KX,4,none⟩=some (.int .i64 k.too)∧W0.cell? ⟨Y,0,none⟩=some (.int .i64 F.key.kind)∧W0.cell? ⟨Y,1,none⟩=some (.int .i64 F.key.src)∧W0.cell? ⟨Y,2,none⟩=some (.int .i64 F.key.frm)∧W0.cell? ⟨Y,3,none⟩=some (.int .i64 F.key.dst)∧W0.cell? ⟨Y,4,none⟩=some (.int .i64 F.key.too)∧W0.cell? ⟨Y,5,none⟩=some (.int .i64 F.st)∧W0.cell? ⟨Y,6,none⟩=some (.int .i64 F.unt)∧W0.cell? ⟨Y,7,none⟩=some (.int .i64 F.stp)∧W0.cell? ⟨Y,8,none⟩=some (.int .i64 F.h0)∧W0.cell? ⟨Y,9,none⟩=some (.int .i64 F.h1)∧W0.cell? ⟨Y,10,none⟩=some (.int .i64 F.w0)∧W0.cell? ⟨Y,11,none⟩=some (.int .i64 F.w1)∧W0.cell? ⟨Y,12,none⟩=some (.bool F.d0)∧W0.cell? ⟨Y,13,none⟩=some (.bool F.d1)∧W0.cell? ⟨Y,14,none⟩=some (.int .i64 F.num):=⟨t2,k0,k1,k2,k3,k4,e0,e1,e2,e3,e4,e5,e6,e7,e8,e9,e10,e11,e12,e13,e14⟩
  clear hfin hx hk hf hcF t0 t1
  go_region_held3 (fun X9=>X9.cell? ⟨X,2,none⟩=some (.map (some m'))∧X9.cell? ⟨KX,0,none⟩=some (.int .i64 k.kind)∧X9.cell? ⟨KX,1,none⟩=some (.int .i64 k.src)∧X9.cell? ⟨KX,2,none⟩=some (.int .i64 k.frm)∧X9.cell? ⟨KX,3,none⟩=some (.int .i64 k.dst)∧X9.cell? ⟨KX,4,none⟩=some (.int .i64 k.too)∧X9.cell? ⟨Y,0,none⟩=some (.int .i64 F.key.kind)∧X9.cell? ⟨Y,1,none⟩=some (.int .i64 F.key.src)∧X9.cell? ⟨Y,2,none⟩=some (.int .i64 F.key.frm)∧X9.cell? ⟨Y,3,none⟩=some (.int .i64 F.key.dst)∧X9.cell? ⟨Y,4,none⟩=some (.int .i64 F.key.too)∧X9.cell? ⟨Y,5,none⟩=some (.int .i64 F.st)∧X9.cell? ⟨Y,6,none⟩=some (.int .i64 F.unt)∧X9.cell? ⟨Y,7,none⟩=some (.int .i64 F.stp)∧X9.cell? ⟨Y,8,none⟩=some (.int .i64 F.h0)∧X9.cell? ⟨Y,9,none⟩=some (.int .i64 F.h1)∧X9.cell? ⟨Y,10,none⟩=some (.int .i64 F.w0)∧X9.cell? ⟨Y,11,none⟩=some (.int .i64 F.w1)∧X9.cell? ⟨Y,12,none⟩=some (.bool F.d0)∧X9.cell? ⟨Y,13,none⟩=some (.bool F.d1)∧X9.cell? ⟨Y,14,none⟩=some (.int .i64 F.num)) (with_reducible first|assumption|go_keep) (first
    | (go_at_call 37;with_reducible refine hc0.mono ?_;rintro e W3 ⟨rfl,b3⟩;have hB3:=bel_dr b3;obtain ⟨W4,hr4,q1,q2,q3,hp4⟩:=HFN.out W3 hB3
       have X3:=(hB3.block X (blk_lt HX.out)).trans HX.out
       have K3:=HKY.out.below HKY.out.lt hB3
       have F3:=HF.out.below HF.out.lt hB3
       have X4:=q1.trans X3
       have K4:KyAt W4 KX k:=Eq.trans q2 K3
       have F4:FlAt W4 Y F:=Eq.trans q3 F3
       have hS3:W3.cell? ⟨X,2,none⟩=some (.map (some m'))∧W3.cell? ⟨KX,0,none⟩=some (.int .i64 k.kind)∧W3.cell? ⟨KX,1,none⟩=some (.int .i64 k.src)∧W3.cell? ⟨KX,2,none⟩=some (.int .i64 k.frm)∧W3.cell? ⟨KX,3,none⟩=some (.int .i64 k.dst)∧W3.cell? ⟨KX,4,none⟩=some (.int .i64 k.too)∧W3.cell? ⟨Y,0,none⟩=some (.int .i64 F.key.kind)∧W3.cell? ⟨Y,1,none⟩=some (.int .i64 F.key.src)∧W3.cell? ⟨Y,2,none⟩=some (.int .i64 F.key.frm)∧W3.cell? ⟨Y,3,none⟩=some (.int .i64 F.key.dst)∧W3.cell? ⟨Y,4,none⟩=some (.int .i64 F.key.too)∧W3.cell? ⟨Y,5,none⟩=some (.int .i64 F.st)∧W3.cell? ⟨Y,6,none⟩=some (.int .i64 F.unt)∧W3.cell? ⟨Y,7,none⟩=some (.int .i64 F.stp)∧W3.cell? ⟨Y,8,none⟩=some (.int .i64 F.h0)∧W3.cell? ⟨Y,9,none⟩=some (.int .i64 F.h1)∧W3.cell? ⟨Y,10,none⟩=some (.int .i64 F.w0)∧W3.cell? ⟨Y,11,none⟩=some (.int .i64 F.w1)∧W3.cell? ⟨Y,12,none⟩=some (.bool F.d0)∧W3.cell? ⟨Y,13,none⟩=some (.bool F.d1)∧W3.cell? ⟨Y,14,none⟩=some (.int .i64 F.num):=⟨(tab_cells X3).2.2,K3.cells.1,K3.cells.2.1,K3.cells.2.2.1,K3.cells.2.2.2.1,K3.cells.2.2.2.2,F3.cells⟩
       have hS4:W4.cell? ⟨X,2,none⟩=some (.map (some m'))∧W4.cell? ⟨KX,0,none⟩=some (.int .i64 k.kind)∧W4.cell? ⟨KX,1,none⟩=some (.int .i64 k.src)∧W4.cell? ⟨KX,2,none⟩=some (.int .i64 k.frm)∧W4.cell? ⟨KX,3,none⟩=some (.int .i64 k.dst)∧W4.cell? ⟨KX,4,none⟩=some (.int .i64 k.too)∧W4.cell? ⟨Y,0,none⟩=some (.int .i64 F.key.kind)∧W4.cell? ⟨Y,1,none⟩=some (.int .i64 F.key.src)∧W4.cell? ⟨Y,2,none⟩=some (.int .i64 F.key.frm)∧W4.cell? ⟨Y,3,none⟩=some (.int .i64 F.key.dst)∧W4.cell? ⟨Y,4,none⟩=some (.int .i64 F.key.too)∧W4.cell? ⟨Y,5,none⟩=some (.int .i64 F.st)∧W4.cell? ⟨Y,6,none⟩=some (.int .i64 F.unt)∧W4.cell? ⟨Y,7,none⟩=some (.int .i64 F.stp)∧W4.cell? ⟨Y,8,none⟩=some (.int .i64 F.h0)∧W4.cell? ⟨Y,9,none⟩=some (.int .i64 F.h1)∧W4.cell? ⟨Y,10,none⟩=some (.int .i64 F.w0)∧W4.cell? ⟨Y,11,none⟩=some (.int .i64 F.w1)∧W4.cell? ⟨Y,12,none⟩=some (.bool F.d0)∧W4.cell? ⟨Y,13,none⟩=some (.bool F.d1)∧W4.cell? ⟨Y,14,none⟩=some (.int .i64 F.num):=⟨(tab_cells X4).2.2,K4.cells.1,K4.cells.2.1,K4.cells.2.2.1,K4.cells.2.2.2.1,K4.cells.2.2.2.2,F4.cells⟩
       have HP4:=hidE hp4
       clear hB3 X3 K3 F3 X4 K4 F4 q1 q2 q3 hp4))
  exact HK.out _ _ _ _ _ _ HP4.out
end Go.Proofs.YtkhheooofcpfdaaGreatDoor
namespace Go.Proofs.YtkhheooofcpfdaaGreatDoor
open Go.RowKit Go.Maps
set_option linter.unusedVariables false
theorem stpF_key {f:Fl} {s:Sg} {side now:Int} (h:stpE f s side now=0):(stpF f s side now).key=f.key:=by
 unfold stpF
 rw [if_pos h]
 show (sayF f s side).key=f.key
 unfold sayF strF goF
 repeat' split
 all_goals rfl
theorem BgT.onlyY {w W W':World} {b m X m' Y:Nat} {t t':Tb} {k:Ky} {s:Sg} {bv:Value} (h:BgT w b m t k s bv X m' t' W) (ho:Only Y W W') (h1:X < Y) (h2:m' < Y) (h3:w.heap.size+2 < Y) (hm:m < w.heap.size):BgT w b m t k s bv X m' t' W':=by
 have hb:=h.st.lb
 exact ⟨⟨Eq.trans (ho.block _ (by omega)) h.st.ky,Eq.trans (ho.block _ (by omega)) h.st.sg,Eq.trans (ho.block _ (by omega)) h.st.rs,h.st.tb.blk (ho.block b (by omega)) (ho.block m (by omega)),hb,ho.below (by omega) h.st.bel⟩,h.tb.blk (ho.block X (by omega)) (ho.block m' (by omega)),h.lx,h.lm⟩
structure BgM (w:World) (b m:Nat) (t:Tb) (k:Ky) (s:Sg) (bv:Value) (X m':Nat) (u:Tb) (Y:Nat) (F:Fl) (W:World):Prop where
 tb:TbAt W X m' u
 old:W.heap[b]? = some (.cells #[.int .i64 t.max,.int .i64 t.now,.map (some m)] 76 (0,0))
 fl:FlAt W Y F
 rs:FlAt W (w.heap.size+2) zeroF
 bel:Below w.heap.size w W
set_option maxRecDepth 100000 in
set_option maxHeartbeats 64000000 in
theorem to_err (b m:Nat) (t:Tb) (k:Ky) (s:Sg) (a:Option Addr) (l c:Nat) (now:Int) (w:World) (h:TbAt w b m t) (ok:TbOk t) (hk:KyOk k) (hb:Bytes w (.slice a l c) s.body) (hL:Lives w) (hz:timE t now=0) (hhs:hasK (leftL now t.fs) k=true) (z0:Int) (hst:stpE (getK (leftL now t.fs) k) s (sdK (getK (leftL now t.fs) k) k s) now=z0) (hz0:¬ z0=0) :
  Calls Tryz.prog 11 #[.pointer (some ⟨b,0,none⟩),keyV k,segV s (.slice a l c),.int .i64 now] w (fun e w'=>e = .returned (.tuple #[flV zeroF,.iface 71 (.int .i64 z0)])∧Below w.heap.size w w'):=by
 rw [show flV zeroF = .agg #[.int .i64 0,.int .i64 0,.int .i64 0,.int .i64 0,.int .i64 0,.int .i64 0,.int .i64 0,.int .i64 0,.int .i64 0,.int .i64 0,.int .i64 0,.int .i64 0,.bool false,.bool false,.int .i64 0] from rfl]
 have HZ0:=hidE hst
 have HN0:=hidE hz0
 clear hst hz0
 have h1:=BgS.start w b m t k s (.slice a l c) h
 obtain ⟨W1,hW1⟩:∃ W1,((w.alloc (.cells #[.int .i64 k.kind,.int .i64 k.src,.int .i64 k.frm,.int .i64 k.dst,.int .i64 k.too] 37)).alloc (.cells #[.int .i64 s.frm,.int .i64 s.too,.int .i64 s.seq,.int .i64 s.ack,.int .i64 s.win,.int .i64 s.flg,.slice a l c] 41)).alloc (.cells #[.int .i64 0,.int .i64 0,.int .i64 0,.int .i64 0,.int .i64 0,.int .i64 0,.int .i64 0,.int .i64 0,.int .i64 0,.int .i64 0,.int .i64 0,.int .i64 0,.bool false,.bool false,.int .i64 0] 45)=W1:=⟨_,rfl⟩
 rw [hW1] at h1
 have HT:=hidE h
 have HL:=hidE (fun W (hb:Below w.heap.size w W)=>hL.below hb)
 have HB:=hidE (fun W (hB:Below w.heap.size w W)=>hb.below (Nat.le_refl _) hB)
 have hc:=at_ok b m t now W1 h1.tb hz ok.ap (by have:=ok.le;have:=ok.mx;omega)
 have HHS:=hidE hhs
 clear hz hhs
 clear hL hb
 unfold keyV segV
 go_enter Tryz.func11,Tryz.ntmps11
 go_upto_region 1 with fail
 try rw [hW1]
 clear hW1
 go_upto_region 4 with (go_at_call 30;go_must (with_reducible refine hc.mono ?_;rintro e W2 ⟨m',v,ks,rfl,hm2,hlm,hown2,hpm2,b2⟩))
 have h2:=BgT.of (h1.step b2) hm2 (Nat.le_trans h1.bel.size hlm)
 obtain ⟨W3,hW3⟩:∃ W3,W2.alloc (.cells #[.int .i64 t.max,.int .i64 now,.map (some m')] 76)=W3:=⟨_,rfl⟩
 obtain ⟨X,hX⟩:∃ X,W2.heap.size=X:=⟨_,rfl⟩
 rw [hW3] at h2 ⊢
 rw [hX] at h2 ⊢
 clear hW3 hX h1 b2 hc hm2 hlm hown2 hpm2
 obtain ⟨t',ht'⟩:∃ t',({ max:=t.max,now:=now,fs:=leftL now t.fs }:Tb)=t':=⟨_,rfl⟩
 rw [ht'] at h2
 have HT':=hidE ht'
 clear ht'
 obtain ⟨k0,k1,k2,k3,k4⟩:=h2.st.ky.cells
 have HHB:Hid (hasK t'.fs k=true):=by rw [← HT'.out];exact HHS.out
 have hg:=get_ok X m' t' k W3 h2.tb hk HHB.out
 obtain ⟨F,hF⟩:∃ F,getK t'.fs k=F:=⟨_,rfl⟩
 have HF:=hidE hF
 rw [hF] at hg
 unfold keyV flV at hg
 clear hF
 go_upto_region 7 with (go_at_call 20;go_must (with_reducible refine hg.mono ?_;rintro e W4 ⟨rfl,b4⟩))
 have h4:=(h2.step b4).alloc (.cells #[.int .i64 F.key.kind,.int .i64 F.key.src,.int .i64 F.key.frm,.int .i64 F.key.dst,.int .i64 F.key.too,.int .i64 F.st,.int .i64 F.unt,.int .i64 F.stp,.int .i64 F.h0,.int .i64 F.h1,.int .i64 F.w0,.int .i64 F.w1,.bool F.d0,.bool F.d1,.int .i64 F.num] 45)
 have p4:=FlAt.new W4 F
 obtain ⟨Y,hY⟩:∃ Y,W4.heap.size=Y:=⟨_,rfl⟩
 have hYX:X < Y:=by have:=(h2.step b4).tb.lt;omega
 have hYm:m' < Y:=by have:=(h2.step b4).tb.map.lt;omega
 have hYw:w.heap.size+2 < Y:=by have:=h2.lx;omega
 obtain ⟨W5,hW5⟩:∃ X9,W4.alloc (.cells #[.int .i64 F.key.kind,.int .i64 F.key.src,.int .i64 F.key.frm,.int .i64 F.key.dst,.int .i64 F.key.too,.int .i64 F.st,.int .i64 F.unt,.int .i64 F.stp,.int .i64 F.h0,.int .i64 F.h1,.int .i64 F.w0,.int .i64 F.w1,.bool F.d0,.bool F.d1,.int .i64 F.num] 45)=X9:=⟨_,rfl⟩
 rw [hW5] at h4 p4 ⊢
 rw [hY] at p4 ⊢
 clear hW5 hg b4 h2 k0 k1 k2 k3 k4 hY
 obtain ⟨sd,hsd⟩:∃ sd,sdK F k s=sd:=⟨_,rfl⟩
 obtain ⟨F',hF'⟩:∃ F',stpF F s sd now=F':=⟨_,rfl⟩
 obtain ⟨z,hz'⟩:∃ z,stpE F s sd now=z:=⟨_,rfl⟩
 have HSZ:Hid (sdK F k s=sd∧stpF F s sd now=F'∧stpE F s sd now=z):=⟨hsd,hF',hz'⟩
 have hcs:=fun W=>side_any F k s a l c W
 have hct:=fun W (bw:Below w.heap.size w W)=>step_any F s (.slice a l c) sd now W (HB.out W bw) (HL.out W bw)
 simp only [hsd] at hcs
 simp only [hF',hz'] at hct
 unfold flV keyV segV at hcs
 unfold flV segV at hct
 clear hsd hF' hz'
 have HFQ:Hid (F'.key=F.key∨¬ z=0):=by
  by_cases h0:z=0
  ·exact .inl (by rw [← HSZ.out.2.1];exact stpF_key (by rw [HSZ.out.2.2];exact h0))
  ·exact .inr h0
 have HS0:=hidE (show BgT w b m t k s (.slice a l c) X m' t' W5.drew∧FlAt W5.drew Y F from ⟨h4.step ((Below.refl _ _).drew),p4.drew⟩)
 have HSB:=hidE (fun (W W':World) (h:BgT w b m t k s (.slice a l c) X m' t' W∧FlAt W Y F) (hb:Below W.heap.size W W')=>(⟨h.1.step hb,h.2.below h.2.lt hb⟩:BgT w b m t k s (.slice a l c) X m' t' W'∧FlAt W' Y F))
 have HSF:=hidE (fun (W:World) (h:BgT w b m t k s (.slice a l c) X m' t' W∧FlAt W Y F)=>h.2)
 have HSK:=hidE (fun (W:World) (h:BgT w b m t k s (.slice a l c) X m' t' W∧FlAt W Y F)=>h.1.st.ky)
 have HSG:=hidE (fun (W:World) (h:BgT w b m t k s (.slice a l c) X m' t' W∧FlAt W Y F)=>h.1.st.sg)
 have HCS:=hidE (fun (W:World) (h:BgT w b m t k s (.slice a l c) X m' t' W∧FlAt W Y F)=>hcs W)
 have HCT:=hidE (fun (W:World) (h:BgT w b m t k s (.slice a l c) X m' t' W∧FlAt W Y F)=>hct W h.1.st.bel)
 clear hcs hct h4 p4
 have HMW:=hidE HT.out.map.lt
 refine of_r7 Y w.heap.size (w.heap.size+1) F F' k s a l c sd now (errV z) (fun W=>BgT w b m t k s (.slice a l c) X m' t' W∧FlAt W Y F) W5 _ _ _ (by kernel_rfl) HS0.out HSB.out HSF.out HSK.out HSG.out HCS.out HCT.out _ _ _ _ _ _ _ _ _ _ _ _ _ _ _ _ _ _ _ _ _ _ _ _ _ _ _ _ _ _ _ _ _ _ _ _ _ _ _ _ _ _ _ _ _ _ _ _ _ _ _ _ _ _ ?_
 intro W9
 iterate 11 intro _
 intro hW9 p9
 conv =>
  arg 1
  zeta
 try go_step
 obtain ⟨W7,hS7,o7⟩:=hW9
 have h9:=hS7.1.onlyY o7 hYX hYm hYw HMW.out
 clear hS7 o7 HS0 HSB HSF HSK HSG HCS HCT
 have hzz:z=z0:=by
  have h1:=HSZ.out
  rw [h1.1.symm] at h1
  have hF2:getK (leftL now t.fs) k=F:=by rw [← HF.out,← HT'.out]
  rw [← hF2] at h1
  rw [← h1.2.2]
  exact HZ0.out
 subst hzz
 have h0:=HN0.out
 rw [errV_no h0]
 obtain ⟨y0,y1,y2,y3,y4,y5,y6,y7,y8,y9,y10,y11,y12,y13,y14⟩:=h9.st.rs.frees
 obtain ⟨d0,d1,d2,d3,d4,d5,d6,d7,d8,d9,d10,d11,d12,d13,d14⟩:=zero_cells h9.st.rs
 obtain ⟨W8,hW8,g8,b8⟩:=h9.st.wipe
 have HW8:=hidE hW8
 have HG8:=hidE g8
 have HB8:=hidE b8
 clear hW8 g8 b8 h9 p9
 go_wp2_with fail
 rw [HW8.out]
 clear y0 y1 y2 y3 y4 y5 y6 y7 y8 y9 y10 y11 y12 y13 y14 d0 d1 d2 d3 d4 d5 d6 d7 d8 d9 d10 d11 d12 d13 d14
 obtain ⟨c0,c1,c2,c3,c4,c5,c6,c7,c8,c9,c10,c11,c12,c13,c14⟩:=zero_cells HG8.out
 exact bodyPost_ret (v:=.tuple #[.agg #[.int .i64 0,.int .i64 0,.int .i64 0,.int .i64 0,.int .i64 0,.int .i64 0,.int .i64 0,.int .i64 0,.int .i64 0,.int .i64 0,.int .i64 0,.int .i64 0,.bool false,.bool false,.int .i64 0],.iface 71 (.int .i64 z)]) (by simp [results,Tryz.results11,go_sem,c0,c1,c2,c3,c4,c5,c6,c7,c8,c9,c10,c11,c12,c13,c14]) rfl ⟨rfl,HB8.out⟩
end Go.Proofs.YtkhheooofcpfdaaGreatDoor
namespace Go.Proofs.YtkhheooofcpfdaaGreatDoor
open Go.RowKit Go.Maps
set_option linter.unusedVariables false
set_option maxRecDepth 100000 in
set_option maxHeartbeats 64000000 in
theorem to_ok (b m:Nat) (t:Tb) (k:Ky) (s:Sg) (a:Option Addr) (l c:Nat) (now:Int) (w:World) (h:TbAt w b m t) (ok:TbOk t) (hk:KyOk k) (hb:Bytes w (.slice a l c) s.body) (hL:Lives w) (hz:timE t now=0) (hhs:hasK (leftL now t.fs) k=true) (hst:stpE (getK (leftL now t.fs) k) s (sdK (getK (leftL now t.fs) k) k s) now=0) :
  Calls Tryz.prog 11 #[.pointer (some ⟨b,0,none⟩),keyV k,segV s (.slice a l c),.int .i64 now] w (fun e w'=>e = .returned (.tuple #[flV (ofG t k s now),.nilIface])∧(∃ m',w.heap.size≤m'∧TbAt w' b m' { max:=t.max,now:=now,fs:=tputL (ofG t k s now) (leftL now t.fs) })∧w.grownBy w' (some b)):=by
 obtain ⟨Q,hQ⟩:∃ Q:Ending→World→Prop,Q=(fun e w'=>e = .returned (.tuple #[flV (ofG t k s now),.nilIface])∧(∃ m',w.heap.size≤m'∧TbAt w' b m' { max:=t.max,now:=now,fs:=tputL (ofG t k s now) (leftL now t.fs) })∧w.grownBy w' (some b)):=⟨_,rfl⟩
 obtain ⟨F0,hF0⟩:∃ F0,ofG t k s now=F0:=⟨_,rfl⟩
 rw [hF0] at hQ ⊢
 have HQ0:=hidE hQ
 have HF0:=hidE hF0
 rw [← hQ]
 clear hQ hF0
 have HZ0:=hidE hst
 clear hst
 have h1:=BgS.start w b m t k s (.slice a l c) h
 obtain ⟨W1,hW1⟩:∃ W1,((w.alloc (.cells #[.int .i64 k.kind,.int .i64 k.src,.int .i64 k.frm,.int .i64 k.dst,.int .i64 k.too] 37)).alloc (.cells #[.int .i64 s.frm,.int .i64 s.too,.int .i64 s.seq,.int .i64 s.ack,.int .i64 s.win,.int .i64 s.flg,.slice a l c] 41)).alloc (.cells #[.int .i64 0,.int .i64 0,.int .i64 0,.int .i64 0,.int .i64 0,.int .i64 0,.int .i64 0,.int .i64 0,.int .i64 0,.int .i64 0,.int .i64 0,.int .i64 0,.bool false,.bool false,.int .i64 0] 45)=W1:=⟨_,rfl⟩
 rw [hW1] at h1
 have HT:=hidE h
 have HL:=hidE (fun W (hb:Below w.heap.size w W)=>hL.below hb)
 have HB:=hidE (fun W (hB:Below w.heap.size w W)=>hb.below (Nat.le_refl _) hB)
 have hc:=at_ok b m t now W1 h1.tb hz ok.ap (by have:=ok.le;have:=ok.mx;omega)
 have HHS:=hidE hhs
 clear hz hhs
 clear hL hb
 unfold keyV segV
 go_enter Tryz.func11,Tryz.ntmps11
 go_upto_region 1 with fail
 try rw [hW1]
 clear hW1
 go_upto_region 4 with (go_at_call 30;go_must (with_reducible refine hc.mono ?_;rintro e W2 ⟨m',v,ks,rfl,hm2,hlm,hown2,hpm2,b2⟩))
 have h2:=BgT.of (h1.step b2) hm2 (Nat.le_trans h1.bel.size hlm)
 obtain ⟨W3,hW3⟩:∃ W3,W2.alloc (.cells #[.int .i64 t.max,.int .i64 now,.map (some m')] 76)=W3:=⟨_,rfl⟩
 obtain ⟨X,hX⟩:∃ X,W2.heap.size=X:=⟨_,rfl⟩
 rw [hW3] at h2 ⊢
 rw [hX] at h2 ⊢
 clear hW3 hX h1 b2 hc hm2 hlm hown2 hpm2
 obtain ⟨t',ht'⟩:∃ t',({ max:=t.max,now:=now,fs:=leftL now t.fs }:Tb)=t':=⟨_,rfl⟩
 rw [ht'] at h2
 have HT':=hidE ht'
 clear ht'
 obtain ⟨k0,k1,k2,k3,k4⟩:=h2.st.ky.cells
 have HHB:Hid (hasK t'.fs k=true):=by rw [← HT'.out];exact HHS.out
 have hg:=get_ok X m' t' k W3 h2.tb hk HHB.out
 obtain ⟨F,hF⟩:∃ F,getK t'.fs k=F:=⟨_,rfl⟩
 have HF:=hidE hF
 rw [hF] at hg
 unfold keyV flV at hg
 clear hF
 go_upto_region 7 with (go_at_call 20;go_must (with_reducible refine hg.mono ?_;rintro e W4 ⟨rfl,b4⟩))
 have h4:=(h2.step b4).alloc (.cells #[.int .i64 F.key.kind,.int .i64 F.key.src,.int .i64 F.key.frm,.int .i64 F.key.dst,.int .i64 F.key.too,.int .i64 F.st,.int .i64 F.unt,.int .i64 F.stp,.int .i64 F.h0,.int .i64 F.h1,.int .i64 F.w0,.int .i64 F.w1,.bool F.d0,.bool F.d1,.int .i64 F.num] 45)
 have p4:=FlAt.new W4 F
 obtain ⟨Y,hY⟩:∃ Y,W4.heap.size=Y:=⟨_,rfl⟩
 have hYX:X < Y:=by have:=(h2.step b4).tb.lt;omega
 have hYm:m' < Y:=by have:=(h2.step b4).tb.map.lt;omega
 have hYw:w.heap.size+2 < Y:=by have:=h2.lx;omega
 obtain ⟨W5,hW5⟩:∃ X9,W4.alloc (.cells #[.int .i64 F.key.kind,.int .i64 F.key.src,.int .i64 F.key.frm,.int .i64 F.key.dst,.int .i64 F.key.too,.int .i64 F.st,.int .i64 F.unt,.int .i64 F.stp,.int .i64 F.h0,.int .i64 F.h1,.int .i64 F.w0,.int .i64 F.w1,.bool F.d0,.bool F.d1,.int .i64 F.num] 45)=X9:=⟨_,rfl⟩
 rw [hW5] at h4 p4 ⊢
 rw [hY] at p4 ⊢
 clear hW5 hg b4 h2 k0 k1 k2 k3 k4 hY
 obtain ⟨sd,hsd⟩:∃ sd,sdK F k s=sd:=⟨_,rfl⟩
 obtain ⟨F',hF'⟩:∃ F',stpF F s sd now=F':=⟨_,rfl⟩
 obtain ⟨z,hz'⟩:∃ z,stpE F s sd now=z:=⟨_,rfl⟩
 have HSZ:Hid (sdK F k s=sd∧stpF F s sd now=F'∧stpE F s sd now=z):=⟨hsd,hF',hz'⟩
 have hcs:=fun W=>side_any F k s a l c W
 have hct:=fun W (bw:Below w.heap.size w W)=>step_any F s (.slice a l c) sd now W (HB.out W bw) (HL.out W bw)
 simp only [hsd] at hcs
 simp only [hF',hz'] at hct
 unfold flV keyV segV at hcs
 unfold flV segV at hct
 clear hsd hF' hz'
 have HFQ:Hid (F'.key=F.key∨¬ z=0):=by
  by_cases h0:z=0
  ·exact .inl (by rw [← HSZ.out.2.1];exact stpF_key (by rw [HSZ.out.2.2];exact h0))
  ·exact .inr h0
 have HS0:=hidE (show BgT w b m t k s (.slice a l c) X m' t' W5.drew∧FlAt W5.drew Y F from ⟨h4.step ((Below.refl _ _).drew),p4.drew⟩)
 have HSB:=hidE (fun (W W':World) (h:BgT w b m t k s (.slice a l c) X m' t' W∧FlAt W Y F) (hb:Below W.heap.size W W')=>(⟨h.1.step hb,h.2.below h.2.lt hb⟩:BgT w b m t k s (.slice a l c) X m' t' W'∧FlAt W' Y F))
 have HSF:=hidE (fun (W:World) (h:BgT w b m t k s (.slice a l c) X m' t' W∧FlAt W Y F)=>h.2)
 have HSK:=hidE (fun (W:World) (h:BgT w b m t k s (.slice a l c) X m' t' W∧FlAt W Y F)=>h.1.st.ky)
 have HSG:=hidE (fun (W:World) (h:BgT w b m t k s (.slice a l c) X m' t' W∧FlAt W Y F)=>h.1.st.sg)
 have HCS:=hidE (fun (W:World) (h:BgT w b m t k s (.slice a l c) X m' t' W∧FlAt W Y F)=>hcs W)
 have HCT:=hidE (fun (W:World) (h:BgT w b m t k s (.slice a l c) X m' t' W∧FlAt W Y F)=>hct W h.1.st.bel)
 clear hcs hct h4 p4
 have HMW:=hidE HT.out.map.lt
 refine of_r7 Y w.heap.size (w.heap.size+1) F F' k s a l c sd now (errV z) (fun W=>BgT w b m t k s (.slice a l c) X m' t' W∧FlAt W Y F) W5 _ _ _ (by kernel_rfl) HS0.out HSB.out HSF.out HSK.out HSG.out HCS.out HCT.out _ _ _ _ _ _ _ _ _ _ _ _ _ _ _ _ _ _ _ _ _ _ _ _ _ _ _ _ _ _ _ _ _ _ _ _ _ _ _ _ _ _ _ _ _ _ _ _ _ _ _ _ _ _ ?_
 intro W9
 iterate 11 intro _
 intro hW9 p9
 conv =>
  arg 1
  zeta
 try go_step
 obtain ⟨W7,hS7,o7⟩:=hW9
 have h9:=hS7.1.onlyY o7 hYX hYm hYw HMW.out
 clear hS7 o7 HS0 HSB HSF HSK HSG HCS HCT
 have hzz:z=0:=by
  have h1:=HSZ.out
  rw [h1.1.symm] at h1
  have hF2:getK (leftL now t.fs) k=F:=by rw [← HF.out,← HT'.out]
  rw [← hF2] at h1
  rw [← h1.2.2]
  exact HZ0.out
 have hFF:F'=F0:=by
  have hF2:getK (leftL now t.fs) k=F:=by rw [← HF.out,← HT'.out]
  rw [← HF0.out,← HSZ.out.2.1,← HSZ.out.1]
  unfold ofG
  rw [hF2]
 have HQ:=HQ0
 rw [← hFF] at HQ
 have h0:=hzz
 clear hFF hzz HQ0 HF0
 subst h0
 rw [errV_ok]
 have hfk:F'.key=F.key:=by
  rcases HFQ.out with h|h
  ·exact h
  ·exact absurd rfl h
 have hgi:=getK_in HHB.out
 rw [HF.out] at hgi
 have hfi:firstK F'.key=firstK k:=by rw [hfk];exact hgi.2
 have hfo:KyOk F'.key:=by rw [hfk];exact h9.tb.oks F hgi.1
 have hx9:=h9.tb.tab
 have hk9:=h9.st.ky
 have hf9:=p9
 have HCF:=hidE (fun W=>first_any k W)
 have HFN:Hid (∀ W,Below W9.heap.size W9 W→∃ W',(Instr.mapUpdate 72 (.map (some m')) (keyV (firstK k)) (flV F')).run Tryz.prog W = .ok () W'∧W'.heap[X]? = W.heap[X]?∧W'.heap[w.heap.size]? = W.heap[w.heap.size]?∧W'.heap[Y]? = W.heap[Y]?∧BgM w b m t k s (.slice a l c) X m' { t' with fs:=tputL F' t'.fs } Y F' W'):=fun W hW=>by
  have h10:=h9.step hW
  have p10:=p9.below p9.lt hW
  have hL1:t'.fs.length≤1000:=by
   have:=ok.le;have:=ok.mx
   rw [← HT'.out]
   have:=List.length_filter_le (fun f=>!goneB now f) t.fs
   show (t.fs.filter fun f=>!goneB now f).length≤1000
   omega
  obtain ⟨W',hr,hm,hg⟩:=h10.tb.map.store lawK Tryz.underlying72 (by rw [fls_len];unfold maxLen;omega) (keyK hk.first) (flV F')
  rw [← hfi,fls_put hfo h10.tb.oks] at hm
  have nX:X≠m':=h10.tb.ne
  have nC:∀ {i:Nat} {cs:Array Value} {T:TypeId} {z:Nat × Nat},W.heap[i]? = some (.cells cs T z)→i≠m':=fun hc e=>by
   rw [e] at hc
   exact h10.tb.map.not_cells hc
  have lt:∀ {i:Nat} {o:Obj},W.heap[i]? = some o→i < W.heap.size:=fun hc=>(Array.getElem?_eq_some_iff.1 hc).1
  have q:∀ {i:Nat} {cs:Array Value} {T:TypeId} {z:Nat × Nat},W.heap[i]? = some (.cells cs T z)→W'.heap[i]? = W.heap[i]?:=fun hc=>hg.block _ (lt hc) (by have:=nC hc;simpa using this)
  have hwb:=h10.st.bel
  have hlm:=h10.lm
  refine ⟨W',hr,q h10.tb.tab,q h10.st.ky,q p10,⟨⟨(q h10.tb.tab).trans h10.tb.tab,hm,fun g hg'=>?_⟩,(q h10.st.tb.tab).trans h10.st.tb.tab,Eq.trans (q p10) p10,Eq.trans (q h10.st.rs) h10.st.rs,hwb.grown hg hwb.size (fun j hj=>by cases hj;exact hlm)⟩⟩
  rcases List.mem_cons.1 hg' with rfl|hg'
  ·exact hfo
  ·exact h10.tb.oks g (List.mem_filter.1 hg').1
 have HLX:=hidE h9.lx
 have HLM:=hidE h9.lm
 have HLB:=hidE h9.st.lb
 have HMT:=hidE (h9.tb.map.lt)
 unfold keyV at HCF HFN
 unfold flV at HFN
 clear hgi hfk hfi hfo h9 p9 HSZ HFQ HF
 go_upto_region 10 with fail
 refine of_r10 X w.heap.size Y m' _ _ F' k (firstK k) (fun W=>BgM w b m t k s (.slice a l c) X m' { t' with fs:=tputL F' t'.fs } Y F' W) W9 _ _ _ (by kernel_rfl) hx9 hk9 hf9 HCF.out HFN.out _ _ _ _ _ _ _ _ _ _ _ _ _ _ _ _ _ _ _ _ _ _ _ _ _ _ _ _ _ _ _ _ _ _ _ _ _ _ _ _ _ _ _ _ _ _ _ _ _ _ _ _ _ _ _ ?_
 intro W10 u49' u50' u51' u52' u53' h10
 conv =>
  arg 1
  zeta
 try go_step
 clear HFN HCF hx9 hk9 hf9
 obtain ⟨x0,x1,x2⟩:=tab_cells h10.tb.tab
 obtain ⟨d0,d1,d2⟩:=tab_cells h10.old
 obtain ⟨y0,y1,y2⟩:=tab_frees h10.old
 have HTY:Hid (Y≠b):=fun e=>by have:=HLB.out;omega
 have HXB:Hid (X≠b):=fun e=>by have:=HLB.out;have:=HLX.out;omega
 have HMB:Hid (m'≠b):=fun e=>by have:=HLB.out;have:=HLM.out;omega
 go_upto_region 12 with fail
 obtain ⟨W11,hW11,o11,on11⟩:=tab_set h10.old (.int .i64 t'.max) (.int .i64 t'.now) (.map (some m'))
 try rw [hW11]
 have p11:=h10.fl.only HTY.out on11
 have r11:=h10.rs.only (by have:=HLB.out;omega) on11
 have m11:=h10.tb.map.block (on11.block m' HMB.out)
 have b10:=h10.bel
 have g11:w.grownBy W11 (some b):=⟨on11.os.trans b10.os,on11.tape.trans b10.tape,on11.output.trans b10.output,by rw [on11.size];exact b10.size,fun i hi hne=>(on11.block i (fun e=>hne (by rw [e]))).trans (b10.block i hi)⟩
 have hok:=h10.tb.oks
 clear hW11 x0 x1 x2 d0 d1 d2 y0 y1 y2 h10 b10 on11
 obtain ⟨e0,e1,e2,e3,e4,e5,e6,e7,e8,e9,e10,e11,e12,e13,e14⟩:=p11.cells
 obtain ⟨y0,y1,y2,y3,y4,y5,y6,y7,y8,y9,y10,y11,y12,y13,y14⟩:=r11.frees
 obtain ⟨d0,d1,d2,d3,d4,d5,d6,d7,d8,d9,d10,d11,d12,d13,d14⟩:=zero_cells r11
 obtain ⟨W12,hW12,g12,o12⟩:=r11.store F'
 have HFIN:Hid (Q (.returned (.tuple #[.agg #[.int .i64 F'.key.kind,.int .i64 F'.key.src,.int .i64 F'.key.frm,.int .i64 F'.key.dst,.int .i64 F'.key.too,.int .i64 F'.st,.int .i64 F'.unt,.int .i64 F'.stp,.int .i64 F'.h0,.int .i64 F'.h1,.int .i64 F'.w0,.int .i64 F'.w1,.bool F'.d0,.bool F'.d1,.int .i64 F'.num],.nilIface])) W12):=by
  show Q _ _
  rw [HQ.out]
  have hmr:w.heap.size+2≠m':=fun e=>by
   rw [← e] at m11
   exact m11.not_cells r11
  refine ⟨rfl,⟨m',HLM.out,⟨(o12.block b (by have:=HLB.out;omega)).trans ?_,?_,?_⟩⟩,⟨o12.os.trans g11.os,o12.tape.trans g11.tape,o12.output.trans g11.output,by rw [o12.size];exact g11.size,fun i hi hne=>(o12.block i (by omega)).trans (g11.block i hi hne)⟩⟩
  ·rw [o11,← HT'.out]
  ·have:=m11.block (o12.block m' (fun e=>hmr e.symm))
   rw [← HT'.out] at this
   exact this
  ·rw [← HT'.out] at hok
   exact hok
 have HW12:=hidE hW12
 have HG12:=hidE g12
 clear hW12 g12 o12 m11 g11 hok o11 r11 p11
 go_wp2_with fail
 rw [HW12.out]
 clear y0 y1 y2 y3 y4 y5 y6 y7 y8 y9 y10 y11 y12 y13 y14 d0 d1 d2 d3 d4 d5 d6 d7 d8 d9 d10 d11 d12 d13 d14 e0 e1 e2 e3 e4 e5 e6 e7 e8 e9 e10 e11 e12 e13 e14
 obtain ⟨c0,c1,c2,c3,c4,c5,c6,c7,c8,c9,c10,c11,c12,c13,c14⟩:=HG12.out.cells
 exact bodyPost_ret (v:=.tuple #[.agg #[.int .i64 F'.key.kind,.int .i64 F'.key.src,.int .i64 F'.key.frm,.int .i64 F'.key.dst,.int .i64 F'.key.too,.int .i64 F'.st,.int .i64 F'.unt,.int .i64 F'.stp,.int .i64 F'.h0,.int .i64 F'.h1,.int .i64 F'.w0,.int .i64 F'.w1,.bool F'.d0,.bool F'.d1,.int .i64 F'.num],.nilIface]) (by simp [results,Tryz.results11,go_sem,c0,c1,c2,c3,c4,c5,c6,c7,c8,c9,c10,c11,c12,c13,c14]) rfl HFIN.out
def ofS (t:Tb) (k:Ky) (s:Sg) (now:Int):Tb:=if ofE t k s now=0 then { max:=t.max,now:=now,fs:=tputL (ofG t k s now) (leftL now t.fs) } else t
theorem offer_any (b m:Nat) (t:Tb) (k:Ky) (s:Sg) (bv:Value) (now:Int) (w:World) (h:TbAt w b m t) (ok:TbOk t) (hk:KyOk k) (hb:Bytes w bv s.body) (hL:Lives w) :
  Calls Tryz.prog 11 #[.pointer (some ⟨b,0,none⟩),keyV k,segV s bv,.int .i64 now] w fun e w'=>e = .returned (.tuple #[flV (ofF t k s now),errV (ofE t k s now)])∧(∃ m',(m'=m∨w.heap.size≤m')∧TbAt w' b m' (ofS t k s now))∧w.grownBy w' (some b):=by
 obtain ⟨a,c,rfl⟩:=len_body hb
 have no:∀ z:Int,¬ z=0→ofE t k s now=z→Calls Tryz.prog 11 #[.pointer (some ⟨b,0,none⟩),keyV k,segV s (.slice a s.body.length c),.int .i64 now] w (fun e w'=>e = .returned (.tuple #[flV zeroF,.iface 71 (.int .i64 z)])∧Below w.heap.size w w')→Calls Tryz.prog 11 #[.pointer (some ⟨b,0,none⟩),keyV k,segV s (.slice a s.body.length c),.int .i64 now] w (fun e w'=>e = .returned (.tuple #[flV (ofF t k s now),errV (ofE t k s now)])∧(∃ m',(m'=m∨w.heap.size≤m')∧TbAt w' b m' (ofS t k s now))∧w.grownBy w' (some b)):=by
  intro z h0 he hc
  have e0:¬ ofE t k s now=0:=by rw [he];exact h0
  refine hc.mono fun e w' ⟨h1,h2⟩=>⟨?_,?_⟩
  ·rw [h1,he,errV_no h0];unfold ofF;rw [if_neg e0]
  ·unfold ofS;rw [if_neg e0];exact ⟨⟨m,.inl rfl,h.below h2⟩,(said_no h h2).2⟩
 by_cases hz:timE t now=0
 case neg =>
  exact no _ hz (by unfold ofE;rw [if_pos hz]) (to_time b m t k s a _ c now w h ok hk hb hL _ rfl hz)
 cases hhs:hasK (leftL now t.fs) k
 case false =>
  exact no 5 (by decide) (by unfold ofE;rw [if_neg (fun x=>x hz),if_pos hhs]) (to_none b m t k s a _ c now w h ok hk hb hL hz hhs)
 have eE:ofE t k s now=stpE (getK (leftL now t.fs) k) s (sdK (getK (leftL now t.fs) k) k s) now:=by unfold ofE;rw [if_neg (fun x=>x hz),if_neg (by rw [hhs];decide)]
 by_cases hst:stpE (getK (leftL now t.fs) k) s (sdK (getK (leftL now t.fs) k) k s) now=0
 case neg =>
  exact no _ hst eE (to_err b m t k s a _ c now w h ok hk hb hL hz hhs _ rfl hst)
 have e0:ofE t k s now=0:=by rw [eE,hst]
 refine (to_ok b m t k s a _ c now w h ok hk hb hL hz hhs hst).mono fun e w' ⟨h1,h2⟩=>⟨?_,?_⟩
 ·rw [h1,e0,errV_ok];unfold ofF;rw [if_pos e0]
 ·unfold ofS;rw [if_pos e0];obtain ⟨⟨m1,p1,q1⟩,r1⟩:=h2;exact ⟨⟨m1,.inr p1,q1⟩,r1⟩
end Go.Proofs.YtkhheooofcpfdaaGreatDoor
