/- What the reference's stream returns (package portref2) of a flow that is not Asked, of side 1: its middle. -/
import Derived.Test.YtkhheooofcpfdaaGreatDoorMhK
import Derived.Deep.DeepCutAuto
import Derived.Deep.DeepMust
import Derived.Test.YtkhheooofcpfdaaGreatDoorMgJ
import Derived.Test.YtkhheooofcpfdaaGreatDoorMgI
namespace Go.Proofs.YtkhheooofcpfdaaGreatDoor
open Go.RowKit
set_option linter.unusedVariables false
set_option maxRecDepth 100000 in
set_option maxHeartbeats 32000000 in
theorem rd33_1 (f:Fl) (s:Sg) (a:Option Addr) (l c:Nat) (w W7:World) (q:Fl) (r fi ah sy ack n1 n2:Bool) (en m1 m2:Int) (h7:Fsz w f s (.slice a l c) zeroF W7) (HQ:Hid (q=if r=true then { f with h1:=if ah=true then en else f.h1,w1:=s.win,d1:=f.d1 || fi,st:=stG f.d0 (f.d1 || fi) f.st } else f)) (HR:Hid (r=(!sy && n1 && (!ack || n2) && (!f.d1 || !ah))))
  (HCN1:Hid (∀ W,Calls Tryz.prog 85 #[.int .i64 s.seq,.int .i64 f.h1,.int .i64 m1] W fun e w'=>e = .returned (.bool n1)∧Below W.heap.size W w')) (HCN2:Hid (∀ W,Calls Tryz.prog 85 #[.int .i64 s.ack,.int .i64 f.h0,.int .i64 m2] W fun e w'=>e = .returned (.bool n2)∧Below W.heap.size W w')) (HCA:Hid (∀ W,Calls Tryz.prog 86 #[.int .i64 en,.int .i64 f.h1] W fun e w'=>e = .returned (.bool ah)∧w'=W)) (C:Code) (hC:C=stTail 33) (v0 v1 v5 v7 v11 v16 v17 v18 v19 v20 v21 v22 v23 v24 v25 v26 v27 v28 v29 v30 v31 v32 v33 v34 v35 v36 v37 v38 v39 v40 v41 v42 v43 v44 v45 v46 v47 v48 v49 v50 v51 v52 v53 v54 v55 v56 v57 v58 v59 v60 v61 v62 v63 v64 v65 v66 v67 v68 v69 v70 v71 v72 v73 v74 v75 v76 v77 v78 v79 v80 v81 v82 v83 v84 v85 v86 v87 v88 v89 v90 v91 v92 v93 v94 v95 v96 v97 v98 v99 v2s v2t v2u v2v v2w v2x v2y v2z v108 v109 v110 v111 v112 v113 v114 v115 v116 v117 v3a v3b v3c v3d v3e v3f v3g v3h v3i v3j v3k v3l v3m v3n v3o v3p v3q v3r v3s v3t v3u v3v v3w v3x v3y v3z v144 v145 v146 v147 v148 v149 v150 v151 v152 v153 v4a v4b v4c v4d v4e v4f v4g v4h v4i v4j v4k v4l v4m v4n v4o v4p v4q v4r v4s v4t v4u v4v v4w v4x v4y v4z v180 v181 v182 v183 v184 v185 v186 v187 v188 v189 v5a v5b v5c v5d v5e v5f v5g v5h v5i v5j v5k v5l v5m v5n v5o v5p v5q v5r v5s v5t:Value) :
  Code.wp Tryz.prog C (bodyPost Tryz.prog Tryz.f60 fun e w'=>e = .returned (.tuple #[.agg #[.int .i64 q.key.kind,.int .i64 q.key.src,.int .i64 q.key.frm,.int .i64 q.key.dst,.int .i64 q.key.too,.int .i64 q.st,.int .i64 q.unt,.int .i64 q.stp,.int .i64 q.h0,.int .i64 q.h1,.int .i64 q.w0,.int .i64 q.w1,.bool q.d0,.bool q.d1,.int .i64 q.num],.bool r])∧Below w.heap.size w w') { tmps:=#[v0,v1,.int .i64 1,.pointer (some ⟨w.heap.size,0,none⟩),.pointer (some ⟨w.heap.size+1,0,none⟩),v5,.pointer (some ⟨w.heap.size+1+1,0,none⟩),v7,.int .i64 0,.bool fi,.bool sy,v11,.bool ack,.int .i64 en,.int .i64 m1,.int .i64 m2,v16,v17,v18,v19,v20,v21,v22,v23,v24,v25,v26,v27,v28,v29,v30,v31,v32,v33,v34,v35,v36,v37,v38,v39,v40,v41,v42,v43,v44,v45,v46,v47,v48,v49,v50,v51,v52,v53,v54,v55,v56,v57,v58,v59,v60,v61,v62,v63,v64,v65,v66,v67,v68,v69,v70,v71,v72,v73,v74,v75,v76,v77,v78,v79,v80,v81,v82,v83,v84,v85,v86,v87,v88,v89,v90,v91,v92,v93,v94,v95,v96,v97,v98,v99,v2s,v2t,v2u,v2v,v2w,v2x,v2y,v2z,v108,v109,v110,v111,v112,v113,v114,v115,v116,v117,v3a,v3b,v3c,v3d,v3e,v3f,v3g,v3h,v3i,v3j,v3k,v3l,v3m,v3n,v3o,v3p,v3q,v3r,v3s,v3t,v3u,v3v,v3w,v3x,v3y,v3z,v144,v145,v146,v147,v148,v149,v150,v151,v152,v153,v4a,v4b,v4c,v4d,v4e,v4f,v4g,v4h,v4i,v4j,v4k,v4l,v4m,v4n,v4o,v4p,v4q,v4r,v4s,v4t,v4u,v4v,v4w,v4x,v4y,v4z,v180,v181,v182,v183,v184,v185,v186,v187,v188,v189,v5a,v5b,v5c,v5d,v5e,v5f,v5g,v5h,v5i,v5j,v5k,v5l,v5m,v5n,v5o,v5p,v5q,v5r,v5s,v5t],defers:=[] } W7:=by
 subst hC
 conv =>
  arg 2
  unfold stTail
  unfold Tryz.f60
  simp only [Option.getD_some,tailOf]
 conv =>
  arg 4
  zeta
 go_step
 go_upto_region 33 with fail
 have hcl:=Ext.call (w:=W7) HCN1.out
 obtain ⟨c0,c1,c2,c3,c4,c5,c6,c7,c8,c9,c10,c11,c12,c13,c14⟩:=h7.fl.cells
 obtain ⟨s0,s1,s2,s3,s4,s5,s6⟩:=h7.sg.cells
 have c8:=Ext.cell c8
 have c9:=Ext.cell c9
 have c10:=Ext.cell c10
 have c11:=Ext.cell c11
 have c12:=Ext.cell c12
 have c13:=Ext.cell c13
 have s0:=Ext.cell s0
 have s1:=Ext.cell s1
 have s2:=Ext.cell s2
 have s3:=Ext.cell s3
 have s4:=Ext.cell s4
 have s5:=Ext.cell s5
 have s6:=Ext.cell s6
 clear c0 c1 c2 c3 c4 c5 c6 c7 c14
 refine wp_region_ext (by kernel_rfl) (by kernel_rfl) ?_
 repeat (go_big_quiet_step ((go_at_call 85;exact hcl _)))
 refine wpQuiet_nil ?_
 rintro _ ⟨u,rfl⟩
 have h11:=h7.step u.h
 obtain ⟨W11,hW11⟩:∃ X9,u.W=X9:=⟨_,rfl⟩
 rw [hW11] at h11 ⊢
 clear hW11 hcl u h7 c8 c9 c10 c11 c12 c13 s0 s1 s2 s3 s4 s5 s6
 go_upto_region 34 with fail
 have hcl:=Ext.call (w:=W11) HCN2.out
 obtain ⟨c0,c1,c2,c3,c4,c5,c6,c7,c8,c9,c10,c11,c12,c13,c14⟩:=h11.fl.cells
 obtain ⟨s0,s1,s2,s3,s4,s5,s6⟩:=h11.sg.cells
 have c8:=Ext.cell c8
 have c9:=Ext.cell c9
 have c10:=Ext.cell c10
 have c11:=Ext.cell c11
 have c12:=Ext.cell c12
 have c13:=Ext.cell c13
 have s0:=Ext.cell s0
 have s1:=Ext.cell s1
 have s2:=Ext.cell s2
 have s3:=Ext.cell s3
 have s4:=Ext.cell s4
 have s5:=Ext.cell s5
 have s6:=Ext.cell s6
 clear c0 c1 c2 c3 c4 c5 c6 c7 c14
 refine wp_region_ext (by kernel_rfl) (by kernel_rfl) ?_
 repeat (go_big_quiet_step ((go_at_call 85;exact hcl _)))
 refine wpQuiet_nil ?_
 rintro _ ⟨u,rfl⟩
 have h12:=h11.step u.h
 obtain ⟨W12,hW12⟩:∃ X9,u.W=X9:=⟨_,rfl⟩
 rw [hW12] at h12 ⊢
 clear hW12 hcl u h11 c8 c9 c10 c11 c12 c13 s0 s1 s2 s3 s4 s5 s6
 obtain ⟨c0,c1,c2,c3,c4,c5,c6,c7,c8,c9,c10,c11,c12,c13,c14⟩:=h12.fl.cells
 obtain ⟨s0,s1,s2,s3,s4,s5,s6⟩:=h12.sg.cells
 have ca:=HCA.out W12
 go_upto_region 35 with fail
 go_cut [18] (fun v wr=>v = .bool ah∧wr=W12)
 case first =>
  go_wp2_with (go_at_call 86;go_must (refine ca.mono ?_;rintro e w' ⟨rfl,hw'⟩;rw [hw'];clear hw' w'))
  go_meet
  case rel=>exact ⟨rfl,rfl⟩
 case rest =>
 obtain ⟨rfl,hw⟩:=hcut
 subst hw
 go_step
 exact rd36_1 f s a l c w wc q r fi ah sy ack n1 n2 en h12 HQ HR _ (by kernel_rfl) _ _ _ _ _ _ _ _ _ _ _ _ _ _ _ _ _ _ _ _ _ _ _ _ _ _ _ _ _ _ _ _ _ _ _ _ _ _ _ _ _ _ _ _ _ _ _ _ _ _ _ _ _ _ _ _ _ _ _ _ _ _ _ _ _ _ _ _ _ _ _ _ _ _ _ _ _ _ _ _ _ _ _ _ _ _ _ _ _ _ _ _ _ _ _ _ _ _ _ _ _ _ _ _ _ _ _ _ _ _ _ _ _ _ _ _ _ _ _ _ _ _ _ _ _ _ _ _ _ _ _ _ _ _ _ _ _ _ _ _ _ _ _ _ _ _ _ _ _ _ _ _ _ _ _ _ _ _ _ _ _ _ _ _ _ _ _ _ _ _ _ _ _ _ _ _ _ _ _ _ _ _ _ _ _ _ _ _ _ _ _ _ _ _ _ _ _ _ _
set_option maxRecDepth 100000 in
set_option maxHeartbeats 32000000 in
theorem rd2_1 (f:Fl) (s:Sg) (a:Option Addr) (l c:Nat) (w W7:World) (q:Fl) (r fi ah sy ack n1 n2:Bool) (en m1 m2:Int) (h7:Fsz w f s (.slice a l c) zeroF W7) (HQ:Hid (q=if r=true then { f with h1:=if ah=true then en else f.h1,w1:=s.win,d1:=f.d1 || fi,st:=stG f.d0 (f.d1 || fi) f.st } else f)) (HR:Hid (r=(!sy && n1 && (!ack || n2) && (!f.d1 || !ah)))) (HM1:Hid (m1=max1 f.w0)) (HM2:Hid (m2=max1 f.w1))
  (HCN1:Hid (∀ W,Calls Tryz.prog 85 #[.int .i64 s.seq,.int .i64 f.h1,.int .i64 m1] W fun e w'=>e = .returned (.bool n1)∧Below W.heap.size W w')) (HCN2:Hid (∀ W,Calls Tryz.prog 85 #[.int .i64 s.ack,.int .i64 f.h0,.int .i64 m2] W fun e w'=>e = .returned (.bool n2)∧Below W.heap.size W w')) (HCA:Hid (∀ W,Calls Tryz.prog 86 #[.int .i64 en,.int .i64 f.h1] W fun e w'=>e = .returned (.bool ah)∧w'=W)) (C:Code) (hC:C=stTail 28) (v0 v1 v5 v7 v11 v15 v16 v17 v18 v19 v20 v21 v22 v23 v24 v25 v26 v27 v28 v29 v30 v31 v32 v33 v34 v35 v36 v37 v38 v39 v40 v41 v42 v43 v44 v45 v46 v47 v48 v49 v50 v51 v52 v53 v54 v55 v56 v57 v58 v59 v60 v61 v62 v63 v64 v65 v66 v67 v68 v69 v70 v71 v72 v73 v74 v75 v76 v77 v78 v79 v80 v81 v82 v83 v84 v85 v86 v87 v88 v89 v90 v91 v92 v93 v94 v95 v96 v97 v98 v99 v2s v2t v2u v2v v2w v2x v2y v2z v108 v109 v110 v111 v112 v113 v114 v115 v116 v117 v3a v3b v3c v3d v3e v3f v3g v3h v3i v3j v3k v3l v3m v3n v3o v3p v3q v3r v3s v3t v3u v3v v3w v3x v3y v3z v144 v145 v146 v147 v148 v149 v150 v151 v152 v153 v4a v4b v4c v4d v4e v4f v4g v4h v4i v4j v4k v4l v4m v4n v4o v4p v4q v4r v4s v4t v4u v4v v4w v4x v4y v4z v180 v181 v182 v183 v184 v185 v186 v187 v188 v189 v5a v5b v5c v5d v5e v5f v5g v5h v5i v5j v5k v5l v5m v5n v5o v5p v5q v5r v5s v5t:Value) :
  Code.wp Tryz.prog C (bodyPost Tryz.prog Tryz.f60 fun e w'=>e = .returned (.tuple #[.agg #[.int .i64 q.key.kind,.int .i64 q.key.src,.int .i64 q.key.frm,.int .i64 q.key.dst,.int .i64 q.key.too,.int .i64 q.st,.int .i64 q.unt,.int .i64 q.stp,.int .i64 q.h0,.int .i64 q.h1,.int .i64 q.w0,.int .i64 q.w1,.bool q.d0,.bool q.d1,.int .i64 q.num],.bool r])∧Below w.heap.size w w') { tmps:=#[v0,v1,.int .i64 1,.pointer (some ⟨w.heap.size,0,none⟩),.pointer (some ⟨w.heap.size+1,0,none⟩),v5,.pointer (some ⟨w.heap.size+1+1,0,none⟩),v7,.int .i64 0,.bool fi,.bool sy,v11,.bool ack,.int .i64 en,.int .i64 f.w0,v15,v16,v17,v18,v19,v20,v21,v22,v23,v24,v25,v26,v27,v28,v29,v30,v31,v32,v33,v34,v35,v36,v37,v38,v39,v40,v41,v42,v43,v44,v45,v46,v47,v48,v49,v50,v51,v52,v53,v54,v55,v56,v57,v58,v59,v60,v61,v62,v63,v64,v65,v66,v67,v68,v69,v70,v71,v72,v73,v74,v75,v76,v77,v78,v79,v80,v81,v82,v83,v84,v85,v86,v87,v88,v89,v90,v91,v92,v93,v94,v95,v96,v97,v98,v99,v2s,v2t,v2u,v2v,v2w,v2x,v2y,v2z,v108,v109,v110,v111,v112,v113,v114,v115,v116,v117,v3a,v3b,v3c,v3d,v3e,v3f,v3g,v3h,v3i,v3j,v3k,v3l,v3m,v3n,v3o,v3p,v3q,v3r,v3s,v3t,v3u,v3v,v3w,v3x,v3y,v3z,v144,v145,v146,v147,v148,v149,v150,v151,v152,v153,v4a,v4b,v4c,v4d,v4e,v4f,v4g,v4h,v4i,v4j,v4k,v4l,v4m,v4n,v4o,v4p,v4q,v4r,v4s,v4t,v4u,v4v,v4w,v4x,v4y,v4z,v180,v181,v182,v183,v184,v185,v186,v187,v188,v189,v5a,v5b,v5c,v5d,v5e,v5f,v5g,v5h,v5i,v5j,v5k,v5l,v5m,v5n,v5o,v5p,v5q,v5r,v5s,v5t],defers:=[] } W7:=by
 subst hC
 conv =>
  arg 2
  unfold stTail
  unfold Tryz.f60
  simp only [Option.getD_some,tailOf]
 conv =>
  arg 4
  zeta
 go_step
 go_step
 go_cut [14] (fun v wr=>v = .int .i64 m1∧wr=W7)
 case first =>
  by_cases hlt:f.w0 < 1
  ·have HE:=hidE (show m1=1 by rw [HM1.out];exact if_pos hlt)
   go_wp2_with fail
   go_meet
   case rel=>exact ⟨by rw [HE.out],rfl⟩
  ·have HE:=hidE (show m1=f.w0 by rw [HM1.out];exact if_neg hlt)
   go_wp2_with fail
   go_meet
   case rel=>exact ⟨by rw [HE.out],rfl⟩
 case rest =>
 obtain ⟨rfl,hw⟩:=hcut
 subst hw
 have h8:=h7
 obtain ⟨W8,hW8⟩:∃ X9,wc=X9:=⟨_,rfl⟩
 rw [hW8] at h8 ⊢
 clear hW8 h7
 obtain ⟨c0,c1,c2,c3,c4,c5,c6,c7,c8,c9,c10,c11,c12,c13,c14⟩:=h8.fl.cells
 obtain ⟨s0,s1,s2,s3,s4,s5,s6⟩:=h8.sg.cells
 go_upto_region 30 with fail
 go_cut [15] (fun v wr=>v = .int .i64 f.w1∧wr=W8)
 case first =>
  go_wp2_with fail
  go_meet
  case rel=>exact ⟨rfl,rfl⟩
 case rest =>
 obtain ⟨rfl,hw⟩:=hcut
 subst hw
 clear c0 c1 c2 c3 c4 c5 c6 c7 c8 c9 c10 c11 c12 c13 c14 s0 s1 s2 s3 s4 s5 s6
 have h9:=h8
 obtain ⟨W9,hW9⟩:∃ X9,wc=X9:=⟨_,rfl⟩
 rw [hW9] at h9 ⊢
 clear hW9 h8
 go_step
 go_step
 go_cut [15] (fun v wr=>v = .int .i64 m2∧wr=W9)
 case first =>
  by_cases hlt:f.w1 < 1
  ·have HE:=hidE (show m2=1 by rw [HM2.out];exact if_pos hlt)
   go_wp2_with fail
   go_meet
   case rel=>exact ⟨by rw [HE.out],rfl⟩
  ·have HE:=hidE (show m2=f.w1 by rw [HM2.out];exact if_neg hlt)
   go_wp2_with fail
   go_meet
   case rel=>exact ⟨by rw [HE.out],rfl⟩
 case rest =>
 obtain ⟨rfl,hw⟩:=hcut
 subst hw
 go_step
 exact rd33_1 f s a l c w wc q r fi ah sy ack n1 n2 en m1 m2 h9 HQ HR HCN1 HCN2 HCA _ (by kernel_rfl) _ _ _ _ _ _ _ _ _ _ _ _ _ _ _ _ _ _ _ _ _ _ _ _ _ _ _ _ _ _ _ _ _ _ _ _ _ _ _ _ _ _ _ _ _ _ _ _ _ _ _ _ _ _ _ _ _ _ _ _ _ _ _ _ _ _ _ _ _ _ _ _ _ _ _ _ _ _ _ _ _ _ _ _ _ _ _ _ _ _ _ _ _ _ _ _ _ _ _ _ _ _ _ _ _ _ _ _ _ _ _ _ _ _ _ _ _ _ _ _ _ _ _ _ _ _ _ _ _ _ _ _ _ _ _ _ _ _ _ _ _ _ _ _ _ _ _ _ _ _ _ _ _ _ _ _ _ _ _ _ _ _ _ _ _ _ _ _ _ _ _ _ _ _ _ _ _ _ _ _ _ _ _ _ _ _ _ _ _ _ _ _ _ _ _ _ _ _ _
end Go.Proofs.YtkhheooofcpfdaaGreatDoor
namespace Go.Proofs.YtkhheooofcpfdaaGreatDoor
open Go.RowKit
set_option linter.unusedVariables false
set_option maxRecDepth 100000 in
set_option maxHeartbeats 32000000 in
theorem rs_go1 (f:Fl) (s:Sg) (a:Option Addr) (l c:Nat) (w:World) (h0:0≤s.flg) (h15:s.flg≤15) (hq0:0≤s.seq) (hq1:s.seq≤4294967295) (hl:s.body.length=l) (hl4:l≤4000) (hh0:0≤f.h0∧f.h0≤4294967295) (hh1:0≤f.h1∧f.h1≤4294967295) (hx:flgB s 4=false) (hst:¬ f.st=1) :
  Calls Tryz.prog 60 #[flV f,segV s (.slice a l c),.int .i64 1] w fun e w'=>e = .returned (.tuple #[flV (if strB f s 1=true then strF f s 1 else f),.bool (strB f s 1)])∧Below w.heap.size w w':=by
 have h1:=Fsz.start w f s (.slice a l c)
 unfold fszW at h1
 obtain ⟨W1,hW1⟩:∃ W1,((w.alloc (.cells #[.int .i64 f.key.kind,.int .i64 f.key.src,.int .i64 f.key.frm,.int .i64 f.key.dst,.int .i64 f.key.too,.int .i64 f.st,.int .i64 f.unt,.int .i64 f.stp,.int .i64 f.h0,.int .i64 f.h1,.int .i64 f.w0,.int .i64 f.w1,.bool f.d0,.bool f.d1,.int .i64 f.num] 45)).alloc (.cells #[.int .i64 s.frm,.int .i64 s.too,.int .i64 s.seq,.int .i64 s.ack,.int .i64 s.win,.int .i64 s.flg,.slice a l c] 41)).alloc (.cells #[.int .i64 0,.int .i64 0,.int .i64 0,.int .i64 0,.int .i64 0,.int .i64 0,.int .i64 0,.int .i64 0,.int .i64 0,.int .i64 0,.int .i64 0,.int .i64 0,.bool false,.bool false,.int .i64 0] 45)=W1:=⟨_,rfl⟩
 rw [hW1] at h1
 have k1:=fun W=>refFlag_any s 1 (.slice a l c) W h0 h15 (by omega)
 have k2:=fun W=>refFlag_any s 2 (.slice a l c) W h0 h15 (by omega)
 have k4:=fun W=>refFlag_any s 4 (.slice a l c) W h0 h15 (by omega)
 have k8:=fun W=>refFlag_any s 8 (.slice a l c) W h0 h15 (by omega)
 have ke:=fun W=>refEnd_any s a l c W h0 h15 hq0 hq1 hl hl4
 have er:=endI_range s
 obtain ⟨r,HR⟩:∃ r,Hid (r=strB f s 1):=⟨_,rfl⟩
 rw [← HR.out]
 obtain ⟨q,HQ⟩:∃ q,Hid (q=if r=true then strF f s 1 else f):=⟨_,rfl⟩
 rw [← HQ.out]
 rw [hx] at k4
 have hx':¬ flgB s 4=true:=by rw [hx];decide
 have HR:Hid (r=goB f s 1):=by show r=_;rw [HR.out];unfold strB;rw [if_neg hx',if_pos hst]
 have HQ:Hid (q=if r=true then goF f s 1 else f):=by show q=_;rw [HQ.out];unfold strF;rw [if_neg hx',if_pos hst]
 unfold goB at HR
 unfold goF topI at HQ
 rw [if_neg (show ¬ (1:Int)=0 by decide)] at HQ
 rw [show hiF f 1=f.h1 from rfl] at HQ
 rw [show hiF f 1=f.h1 from rfl,show hiF f (1 - 1)=f.h0 from rfl,show wnF f (1 - 1)=f.w0 from rfl,show wnF f 1=f.w1 from rfl,show dnF f 1=f.d1 from rfl] at HR
 obtain ⟨m1,HM1⟩:∃ m,Hid (m=max1 f.w0):=⟨_,rfl⟩
 obtain ⟨m2,HM2⟩:∃ m,Hid (m=max1 f.w1):=⟨_,rfl⟩
 rw [← HM1.out,← HM2.out] at HR
 have cn1:=quietB fun W=>refNear_any s.seq f.h1 m1 W
 have cn2:=quietB fun W=>refNear_any s.ack f.h0 m2 W
 have ca:=fun W=>refBeyond_any (endI s) f.h1 W er hh1
 generalize nearB s.seq f.h1 m1=n1 at cn1 HR
 generalize nearB s.ack f.h0 m2=n2 at cn2 HR
 generalize ahB (endI s) f.h1=ah at ca HR HQ
 generalize flgB s 8=ack at k8 HR
 generalize flgB s 1=fi at k1 HQ
 generalize flgB s 2=sy at k2 HR
 generalize endI s=en at ke er ca HQ
 have HCN1:=hidE cn1
 have HCN2:=hidE cn2
 have HCA:=hidE ca
 have e1:(f.st == 1)=false:=by simpa using hst
 clear hx hx' hst er cn1 cn2 ca h0 h15 hq0 hq1 hl hl4 hh0 hh1
 unfold flV segV at *
 go_enter Tryz.func60,Tryz.ntmps60
 go_upto_region 1 with fail
 try rw [hW1]
 clear hW1
 go_upto_region 2 with fail
 obtain ⟨c0,c1,c2,c3,c4,c5,c6,c7,c8,c9,c10,c11,c12,c13,c14⟩:=h1.fl.cells
 obtain ⟨s0,s1,s2,s3,s4,s5,s6⟩:=h1.sg.cells
 go_upto_region 3 with (go_at_call 79;go_must (refine (k1 _).mono ?_;rintro e W2 ⟨rfl,b2⟩))
 have h2:=h1.step b2
 clear h1 b2 k1
 clear c0 c1 c2 c3 c4 c5 c6 c7 c8 c9 c10 c11 c12 c13 c14 s0 s1 s2 s3 s4 s5 s6
 obtain ⟨c0,c1,c2,c3,c4,c5,c6,c7,c8,c9,c10,c11,c12,c13,c14⟩:=h2.fl.cells
 obtain ⟨s0,s1,s2,s3,s4,s5,s6⟩:=h2.sg.cells
 go_upto_region 4 with (go_at_call 79;go_must (refine (k2 _).mono ?_;rintro e W3 ⟨rfl,b3⟩))
 have h3:=h2.step b3
 clear h2 b3 k2
 clear c0 c1 c2 c3 c4 c5 c6 c7 c8 c9 c10 c11 c12 c13 c14 s0 s1 s2 s3 s4 s5 s6
 obtain ⟨c0,c1,c2,c3,c4,c5,c6,c7,c8,c9,c10,c11,c12,c13,c14⟩:=h3.fl.cells
 obtain ⟨s0,s1,s2,s3,s4,s5,s6⟩:=h3.sg.cells
 go_upto_region 5 with (go_at_call 79;go_must (refine (k4 _).mono ?_;rintro e W4 ⟨rfl,b4⟩))
 have h4:=h3.step b4
 clear h3 b4 k4
 clear c0 c1 c2 c3 c4 c5 c6 c7 c8 c9 c10 c11 c12 c13 c14 s0 s1 s2 s3 s4 s5 s6
 obtain ⟨c0,c1,c2,c3,c4,c5,c6,c7,c8,c9,c10,c11,c12,c13,c14⟩:=h4.fl.cells
 obtain ⟨s0,s1,s2,s3,s4,s5,s6⟩:=h4.sg.cells
 go_upto_region 6 with (go_at_call 79;go_must (refine (k8 _).mono ?_;rintro e W5 ⟨rfl,b5⟩))
 have h5:=h4.step b5
 clear h4 b5 k8
 clear c0 c1 c2 c3 c4 c5 c6 c7 c8 c9 c10 c11 c12 c13 c14 s0 s1 s2 s3 s4 s5 s6
 obtain ⟨c0,c1,c2,c3,c4,c5,c6,c7,c8,c9,c10,c11,c12,c13,c14⟩:=h5.fl.cells
 obtain ⟨s0,s1,s2,s3,s4,s5,s6⟩:=h5.sg.cells
 go_upto_region 7 with (go_at_call 52;go_must (refine (ke _).mono ?_;rintro e W6 ⟨rfl,b6⟩))
 have h6:=h5.step b6
 clear h5 b6 ke
 clear c0 c1 c2 c3 c4 c5 c6 c7 c8 c9 c10 c11 c12 c13 c14 s0 s1 s2 s3 s4 s5 s6
 obtain ⟨c0,c1,c2,c3,c4,c5,c6,c7,c8,c9,c10,c11,c12,c13,c14⟩:=h6.fl.cells
 obtain ⟨s0,s1,s2,s3,s4,s5,s6⟩:=h6.sg.cells
 go_upto_region 27 with fail
 go_cut [14] (fun v wr=>v = .int .i64 f.w0∧wr=W6)
 case first =>
  go_wp2_with fail
  go_meet
  case rel=>exact ⟨rfl,rfl⟩
 case rest =>
 obtain ⟨rfl,hw⟩:=hcut
 subst hw
 clear c0 c1 c2 c3 c4 c5 c6 c7 c8 c9 c10 c11 c12 c13 c14 s0 s1 s2 s3 s4 s5 s6
 go_step
 exact rd2_1 f s a l c w wc q r fi ah sy ack n1 n2 en m1 m2 h6 HQ HR HM1 HM2 HCN1 HCN2 HCA _ (by kernel_rfl) _ _ _ _ _ _ _ _ _ _ _ _ _ _ _ _ _ _ _ _ _ _ _ _ _ _ _ _ _ _ _ _ _ _ _ _ _ _ _ _ _ _ _ _ _ _ _ _ _ _ _ _ _ _ _ _ _ _ _ _ _ _ _ _ _ _ _ _ _ _ _ _ _ _ _ _ _ _ _ _ _ _ _ _ _ _ _ _ _ _ _ _ _ _ _ _ _ _ _ _ _ _ _ _ _ _ _ _ _ _ _ _ _ _ _ _ _ _ _ _ _ _ _ _ _ _ _ _ _ _ _ _ _ _ _ _ _ _ _ _ _ _ _ _ _ _ _ _ _ _ _ _ _ _ _ _ _ _ _ _ _ _ _ _ _ _ _ _ _ _ _ _ _ _ _ _ _ _ _ _ _ _ _ _ _ _ _ _ _ _ _ _ _ _ _ _ _ _ _ _
end Go.Proofs.YtkhheooofcpfdaaGreatDoor
namespace Go.Proofs.YtkhheooofcpfdaaGreatDoor
open Go.RowKit
set_option linter.unusedVariables false
theorem refStream_any (f:Fl) (s:Sg) (a:Option Addr) (l c:Nat) (side:Int) (w:World) (hs:side=0∨side=1) (h0:0≤s.flg) (h15:s.flg≤15) (hq0:0≤s.seq) (hq1:s.seq≤4294967295) (hl:s.body.length=l) (hl4:l≤4000) (hh0:0≤f.h0∧f.h0≤4294967295) (hh1:0≤f.h1∧f.h1≤4294967295) :
  Calls Tryz.prog 60 #[flV f,segV s (.slice a l c),.int .i64 side] w fun e w'=>e = .returned (.tuple #[flV (if strB f s side=true then strF f s side else f),.bool (strB f s side)])∧Below w.heap.size w w':=by
 cases hx:flgB s 4
 ·by_cases hst:f.st=1
  ·rcases hs with rfl|rfl
   ·exact rs_asked0 f s a l c w h0 h15 hq0 hq1 hl hl4 hh0 hh1 hx hst
   ·exact rs_asked1 f s a l c w h0 h15 hq0 hq1 hl hl4 hh0 hh1 hx hst
  ·rcases hs with rfl|rfl
   ·exact rs_go0 f s a l c w h0 h15 hq0 hq1 hl hl4 hh0 hh1 hx hst
   ·exact rs_go1 f s a l c w h0 h15 hq0 hq1 hl hl4 hh0 hh1 hx hst
 ·rcases hs with rfl|rfl
  ·exact rs_rst0 f s a l c w h0 h15 hq0 hq1 hl hl4 hh0 hh1 hx
  ·by_cases hst:f.st=1
   ·exact rs_rst1a f s a l c w h0 h15 hq0 hq1 hl hl4 hh0 hh1 hx hst
   ·exact rs_rst1b f s a l c w h0 h15 hq0 hq1 hl hl4 hh0 hh1 hx hst
end Go.Proofs.YtkhheooofcpfdaaGreatDoor
