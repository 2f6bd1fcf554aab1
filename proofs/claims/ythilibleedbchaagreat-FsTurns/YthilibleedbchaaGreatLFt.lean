/-
  FsTurns.
-/
import Derived.Test.YthilibleedbchaaGreatLFt2
set_option maxHeartbeats 16000000
set_option maxRecDepth 100000
namespace Go.Proofs.YthilibleedbchaaGreat
open Go.RowKit
set_option linter.all false
theorem ft_b (x:FsV) (f:Fsd) (s t:List UInt8) (n:Int) (w:World):(ft_a x f s t n w).1:=by
  intro HX HW HS HSD w1 zu0 zu1 zu2 zu3 zu4 wc u38 u39 u40 u41 u42 u43 u44 u45 u46 u47 u48 u49 u50 u51 u52 u53 u54 u55 u56 u58 u59 u60 u61 u62 u63 u64 u65 u66 u67 u68 u69 u70 u71 u72 u73 u74 u75 u76 u77 u78 u79 u80 u81 u82 u83 u84 u85 u86 u87 u88 u89 u90 u91 u92 u93 u94 u95 u96 u97 u98 u99 u100 u101 u102 u103 u104 u105 u106 u107 u108 u109 u110 u111 u112 u113 u114 u115 u116 u117 u118 u119 u120 u121 u122 u123 u124 u125 u126 u127 u128 u129 u130 u131 u132 u133 u134 u135 u136 u137 u138 u139 u140 u141 u142 u143 u144 u145 u146 u147 u148 u149 u150 u151 u152 u153 u154 u155 u156 u157 u158 u159 u160 u161 u162 u163 u164 u165 u166 u167 u168 u169 u170 u171 u172 u173 u174 u175 u176 u177 u178 u179 u180 u181 u182 u183 u184 u185 u186 u187 u188 u189 u190 u191 u192 u193 u194 u195 u196 u197 u198 u199 u200 u201 u202 u203 u204 u205 u206 u207 u208 u209 u210 u211 u212 u213 u214 u215 u216 u217 u218 u219 u220 u221 u222 u223 u224 u225 u226 u227 u228 u229 u230 qul qv2 HGx;obtain ⟨kx0,kx1,kx2,kx3,kx4,kx5⟩:=qab qul.out;have hcon:=qae8 x f wc (HX.out.carry qv2.out) HGx.out HSD.out
  go_wp2_with fail
  refine hcon.mono ?_
  rintro e w2 ⟨v0,rfl,ho,hbb⟩;have quh:=hide (qul.out.carry hbb);have qai:=bT qv2 hbb;clear hcon hbb kx0 kx1 kx2 kx3 kx4 kx5;obtain ⟨xo,e9,hx9,ho9⟩:=ho.bx;subst e9;obtain ⟨w3,ew3⟩:∃wq,w2.alloc (.cells xo.cs 32)=wq:=⟨_,rfl⟩
  have hbn:Below w2.heap.size w2 w3:=by rw [←ew3];exact (Below.refl _ _).alloc (Nat.le_refl _) _
  have qq6:=hide (quh.out.carry hbn);have qao:=bT qai hbn;have qze:=hide (show FsAt w3 w2.heap.size xo by rw [←ew3];exact Bq.new _ _ _);have qzf:=hide (hx9.carry hbn);unfold FsV.cs at ew3;unfold FsV.val;clear ho hx9 ho9 hbn;have qac8:=hide (BelP.refl w3);obtain ⟨ko0,ko1,ko2,ko3,ko4,ko5⟩:=qab qze.out;have hcon:=qyv xo f s n w3 qzf.out HW.out
  go_wp2_with fail
  try rw [ew3]
  refine hcon.mono ?_
  rintro e w4 ⟨v9,rfl,ho,hbb⟩;have qac3:=hide (qq6.out.carry hbb);have HFo_w4:=hide (qze.out.carry hbb);have HRo_w4:=hide (qzf.out.carry hbb);have HBP_w4:=hide (qac8.out.carry hbb);have qca:=bT qao hbb;clear hcon hbb ko0 ko1 ko2 ko3 ko4 ko5
  try clear ew3
  obtain ⟨Da,hDa⟩:∃z,z=qc0 f s n:=⟨_,rfl⟩;have HDa:=hide hDa;rw [←hDa] at ho ⊢;clear hDa;obtain ⟨xa,e9,hx9,ho9⟩:=ho.bx;subst e9;obtain ⟨w5,ew5⟩:∃wq,w4.alloc (.cells xa.cs 32)=wq:=⟨_,rfl⟩
  have hbn:Below w4.heap.size w4 w5:=by rw [←ew5];exact (Below.refl _ _).alloc (Nat.le_refl _) _
  have qac9:=hide (qac3.out.carry hbn);have HFo_w5:=hide (HFo_w4.out.carry hbn);have HRo_w5:=hide (HRo_w4.out.carry hbn);have HBP_w5:=hide (HBP_w4.out.carry hbn);have qi5:=bT qca hbn;have HFa_w5:=hide (show FsAt w5 w4.heap.size xa by rw [←ew5];exact Bq.new _ _ _);have HRa_w5:=hide (hx9.carry hbn);have HOa_w5:=hide ((ho9.mono qac8.out.size).carry hbn);unfold FsV.cs at ew5;unfold FsV.val;clear ho hx9 ho9 hbn;obtain ⟨kx0,kx1,kx2,kx3,kx4,kx5⟩:=qab qac9.out;have hcon:=qrg x f s n w5 (HX.out.carry qi5.out) HW.out;rw [←HDa.out] at hcon
  go_wp2_with fail
  try rw [ew5]
  try generalize Value.agg #[.slice xa.a1 xa.n1 xa.c1,.slice xa.a2 xa.n2 xa.c2,.slice xa.a3 xa.n3 xa.c3,.int .u32 xa.g,.slice xa.a4 xa.n4 xa.c4,.slice xa.a5 xa.n5 xa.c5]=vaa
  try generalize Value.tuple #[vaa,.int .i64 Da.2]=vta
  refine hcon.mono ?_
  rintro e w6 ⟨v9,rfl,ho,hbb⟩;have HFx_w6:=hide (qac9.out.carry hbb);have HFo_w6:=hide (HFo_w5.out.carry hbb);have HRo_w6:=hide (HRo_w5.out.carry hbb);have HBP_w6:=hide (HBP_w5.out.carry hbb);have HFa_w6:=hide (HFa_w5.out.carry hbb);have HRa_w6:=hide (HRa_w5.out.carry hbb);have HOa_w6:=hide (HOa_w5.out.carry hbb);have qhc:=bT qi5 hbb;clear hcon hbb kx0 kx1 kx2 kx3 kx4 kx5
  try clear ew5
  obtain ⟨xb,e9,hx9,ho9⟩:=ho.bx;subst e9;obtain ⟨w7,ew7⟩:∃wq,w6.alloc (.cells xb.cs 32)=wq:=⟨_,rfl⟩
  have hbn:Below w6.heap.size w6 w7:=by rw [←ew7];exact (Below.refl _ _).alloc (Nat.le_refl _) _
  have HFx_w7:=hide (HFx_w6.out.carry hbn);have qada:=hide (HFo_w6.out.carry hbn);have qadb:=hide (HRo_w6.out.carry hbn);have HBP_w7:=hide (HBP_w6.out.carry hbn);have HFa_w7:=hide (HFa_w6.out.carry hbn);have HRa_w7:=hide (HRa_w6.out.carry hbn);have HOa_w7:=hide (HOa_w6.out.carry hbn);have qjm:=bT qhc hbn;have HFb_w7:=hide (show FsAt w7 w6.heap.size xb by rw [←ew7];exact Bq.new _ _ _);have HRb_w7:=hide (hx9.carry hbn);unfold FsV.cs at ew7;unfold FsV.val;clear ho hx9 ho9 hbn;obtain ⟨ko0,ko1,ko2,ko3,ko4,ko5⟩:=qab qada.out;have hcon:=qyx xo f s w7 qadb.out HW.out
  go_wp2_with fail
  try rw [ew7]
  try generalize Value.agg #[.slice xb.a1 xb.n1 xb.c1,.slice xb.a2 xb.n2 xb.c2,.slice xb.a3 xb.n3 xb.c3,.int .u32 xb.g,.slice xb.a4 xb.n4 xb.c4,.slice xb.a5 xb.n5 xb.c5]=vab
  try generalize Value.tuple #[vab,.int .i64 Da.2]=vtb
  refine hcon.mono ?_
  rintro e w8 ⟨v9,rfl,ho,hbb⟩;have HFx_w8:=hide (HFx_w7.out.carry hbb);have HFo_w8:=hide (qada.out.carry hbb);have HRo_w8:=hide (qadb.out.carry hbb);have HBP_w8:=hide (HBP_w7.out.carry hbb);have HFa_w8:=hide (HFa_w7.out.carry hbb);have HRa_w8:=hide (HRa_w7.out.carry hbb);have HOa_w8:=hide (HOa_w7.out.carry hbb);have HFb_w8:=hide (HFb_w7.out.carry hbb);have HRb_w8:=hide (HRb_w7.out.carry hbb);have qge:=bT qjm hbb;clear hcon hbb ko0 ko1 ko2 ko3 ko4 ko5
  try clear ew7
  obtain ⟨Dc,hDc⟩:∃z,z=qc7 f s:=⟨_,rfl⟩;have HDc:=hide hDc;rw [←hDc] at ho ⊢;clear hDc;obtain ⟨xc,e9,hx9,ho9⟩:=ho.bx;subst e9;obtain ⟨w9,ew9⟩:∃wq,w8.alloc (.cells xc.cs 32)=wq:=⟨_,rfl⟩
  have hbn:Below w8.heap.size w8 w9:=by rw [←ew9];exact (Below.refl _ _).alloc (Nat.le_refl _) _
  have qadc:=hide (HFx_w8.out.carry hbn);have HFo_w9:=hide (HFo_w8.out.carry hbn);have HRo_w9:=hide (HRo_w8.out.carry hbn);have HBP_w9:=hide (HBP_w8.out.carry hbn);have HFa_w9:=hide (HFa_w8.out.carry hbn);have HRa_w9:=hide (HRa_w8.out.carry hbn);have HOa_w9:=hide (HOa_w8.out.carry hbn);have HFb_w9:=hide (HFb_w8.out.carry hbn);have HRb_w9:=hide (HRb_w8.out.carry hbn);have qafa:=bT qge hbn;have HFc_w9:=hide (show FsAt w9 w8.heap.size xc by rw [←ew9];exact Bq.new _ _ _);have HRc_w9:=hide (hx9.carry hbn);unfold FsV.cs at ew9;unfold FsV.val;clear ho hx9 ho9 hbn;obtain ⟨kx0,kx1,kx2,kx3,kx4,kx5⟩:=qab qadc.out;have hcon:=qq7 x f s w9 (HX.out.carry qafa.out) HW.out;rw [←HDc.out] at hcon
  go_wp2_with fail
  try rw [ew9]
  try generalize Value.agg #[.slice xc.a1 xc.n1 xc.c1,.slice xc.a2 xc.n2 xc.c2,.slice xc.a3 xc.n3 xc.c3,.int .u32 xc.g,.slice xc.a4 xc.n4 xc.c4,.slice xc.a5 xc.n5 xc.c5]=vac
  try generalize Value.tuple #[vac,.int .i64 Dc.2]=vtc
  refine hcon.mono ?_
  rintro e w10 ⟨v9,rfl,ho,hbb⟩;have qafb:=hide (qadc.out.carry hbb);have qafc:=hide (HFo_w9.out.carry hbb);have qafd:=hide (HRo_w9.out.carry hbb);have qafe:=hide (HBP_w9.out.carry hbb);have qaff:=hide (HFa_w9.out.carry hbb);have qafg:=hide (HRa_w9.out.carry hbb);have qafh:=hide (HOa_w9.out.carry hbb);have qafi:=hide (HFb_w9.out.carry hbb);have qafj:=hide (HRb_w9.out.carry hbb);have qafk:=hide (HFc_w9.out.carry hbb);have qafl:=hide (HRc_w9.out.carry hbb);have qf0:=bT qafa hbb;clear hcon hbb kx0 kx1 kx2 kx3 kx4 kx5
  try clear ew9
  obtain ⟨xd,e9,hx9,ho9⟩:=ho.bx;subst e9;obtain ⟨w11,ew11⟩:∃wq,w10.alloc (.cells xd.cs 32)=wq:=⟨_,rfl⟩
  have hbn:Below w10.heap.size w10 w11:=by rw [←ew11];exact (Below.refl _ _).alloc (Nat.le_refl _) _
  have qafm:=hide (qafb.out.carry hbn);have qzg:=hide (qafc.out.carry hbn);have qzh:=hide (qafd.out.carry hbn);have qafn:=hide (qafe.out.carry hbn);have qafo:=hide (qaff.out.carry hbn);have qafp:=hide (qafg.out.carry hbn);have qafq:=hide (qafh.out.carry hbn);have qafr:=hide (qafi.out.carry hbn);have qafs:=hide (qafj.out.carry hbn);have qaft:=hide (qafk.out.carry hbn);have qafu:=hide (qafl.out.carry hbn);have qh8:=bT qf0 hbn;have qafv:=hide (show FsAt w11 w10.heap.size xd by rw [←ew11];exact Bq.new _ _ _);have qafw:=hide (hx9.carry hbn);unfold FsV.cs at ew11;unfold FsV.val;clear ho hx9 ho9 hbn;obtain ⟨ko0,ko1,ko2,ko3,ko4,ko5⟩:=qab qzg.out;have hcon:=qyy xo f s t w11 qzh.out HW.out
  go_wp2_with fail
  try rw [ew11]
  try generalize Value.agg #[.slice xd.a1 xd.n1 xd.c1,.slice xd.a2 xd.n2 xd.c2,.slice xd.a3 xd.n3 xd.c3,.int .u32 xd.g,.slice xd.a4 xd.n4 xd.c4,.slice xd.a5 xd.n5 xd.c5]=vad
  try generalize Value.tuple #[vad,.int .i64 Dc.2]=vtd
  refine hcon.mono ?_
  rintro e w12 ⟨v9,rfl,ho,hbb⟩;have qafx:=hide (qafm.out.carry hbb);have qafy:=hide (qzg.out.carry hbb);have qafz:=hide (qzh.out.carry hbb);have qaf0:=hide (qafn.out.carry hbb);have qaf1:=hide (qafo.out.carry hbb);have qaf2:=hide (qafp.out.carry hbb);have qaf3:=hide (qafq.out.carry hbb);have qaf4:=hide (qafr.out.carry hbb);have qaf5:=hide (qafs.out.carry hbb);have qaf6:=hide (qaft.out.carry hbb);have qaf7:=hide (qafu.out.carry hbb);have qaf8:=hide (qafv.out.carry hbb);have qaf9:=hide (qafw.out.carry hbb);have qkw:=bT qh8 hbb;clear hcon hbb ko0 ko1 ko2 ko3 ko4 ko5
  try clear ew11
  obtain ⟨Dg,hDg⟩:∃z,z=qc8 f s t:=⟨_,rfl⟩;have HDg:=hide hDg;rw [←hDg] at ho ⊢;clear hDg;obtain ⟨xg,e9,hx9,ho9⟩:=ho.bx;subst e9;obtain ⟨w13,ew13⟩:∃wq,w12.alloc (.cells xg.cs 32)=wq:=⟨_,rfl⟩
  have hbn:Below w12.heap.size w12 w13:=by rw [←ew13];exact (Below.refl _ _).alloc (Nat.le_refl _) _
  have qzi:=hide (qafx.out.carry hbn);have qaga:=hide (qafy.out.carry hbn);have qagb:=hide (qafz.out.carry hbn);have qagc:=hide (qaf0.out.carry hbn);have qagd:=hide (qaf1.out.carry hbn);have qage:=hide (qaf2.out.carry hbn);have qagf:=hide (qaf3.out.carry hbn);have qagg:=hide (qaf4.out.carry hbn);have qagh:=hide (qaf5.out.carry hbn);have qagi:=hide (qaf6.out.carry hbn);have qagj:=hide (qaf7.out.carry hbn);have qagk:=hide (qaf8.out.carry hbn);have qagl:=hide (qaf9.out.carry hbn);have qzj:=bT qkw hbn;have qagm:=hide (show FsAt w13 w12.heap.size xg by rw [←ew13];exact Bq.new _ _ _);have qagn:=hide (hx9.carry hbn);unfold FsV.cs at ew13;unfold FsV.val;clear ho hx9 ho9 hbn;obtain ⟨kx0,kx1,kx2,kx3,kx4,kx5⟩:=qab qzi.out;have hcon:=qra x f s t w13 (HX.out.carry qzj.out) HW.out;rw [←HDg.out] at hcon
  go_wp2_with fail
  try rw [ew13]
  try generalize Value.agg #[.slice xg.a1 xg.n1 xg.c1,.slice xg.a2 xg.n2 xg.c2,.slice xg.a3 xg.n3 xg.c3,.int .u32 xg.g,.slice xg.a4 xg.n4 xg.c4,.slice xg.a5 xg.n5 xg.c5]=vag
  try generalize Value.tuple #[vag,.int .i64 Dg.2]=vtg
  refine hcon.mono ?_
  rintro e w14 ⟨v9,rfl,ho,hbb⟩;have qago:=hide (qzi.out.carry hbb);have qagp:=hide (qaga.out.carry hbb);have qagq:=hide (qagb.out.carry hbb);have qagr:=hide (qagc.out.carry hbb);have qags:=hide (qagd.out.carry hbb);have qagt:=hide (qage.out.carry hbb);have qagu:=hide (qagf.out.carry hbb);have qagv:=hide (qagg.out.carry hbb);have qagw:=hide (qagh.out.carry hbb);have qagx:=hide (qagi.out.carry hbb);have qagy:=hide (qagj.out.carry hbb);have qagz:=hide (qagk.out.carry hbb);have qag0:=hide (qagl.out.carry hbb);have qag1:=hide (qagm.out.carry hbb);have qag2:=hide (qagn.out.carry hbb);have qm9:=bT qzj hbb;clear hcon hbb kx0 kx1 kx2 kx3 kx4 kx5
  try clear ew13
  obtain ⟨xh,e9,hx9,ho9⟩:=ho.bx;subst e9;obtain ⟨w15,ew15⟩:∃wq,w14.alloc (.cells xh.cs 32)=wq:=⟨_,rfl⟩
  have hbn:Below w14.heap.size w14 w15:=by rw [←ew15];exact (Below.refl _ _).alloc (Nat.le_refl _) _
  have qag3:=hide (qago.out.carry hbn);have qzk:=hide (qagp.out.carry hbn);have qzl:=hide (qagq.out.carry hbn);have qag4:=hide (qagr.out.carry hbn);have qag5:=hide (qags.out.carry hbn);have qag6:=hide (qagt.out.carry hbn);have qag7:=hide (qagu.out.carry hbn);have qag8:=hide (qagv.out.carry hbn);have qag9:=hide (qagw.out.carry hbn);have qaha:=hide (qagx.out.carry hbn);have qahb:=hide (qagy.out.carry hbn);have qahc:=hide (qagz.out.carry hbn);have qahd:=hide (qag0.out.carry hbn);have qahe:=hide (qag1.out.carry hbn);have qahf:=hide (qag2.out.carry hbn);have qub:=bT qm9 hbn;have qahg:=hide (show FsAt w15 w14.heap.size xh by rw [←ew15];exact Bq.new _ _ _);have qahh:=hide (hx9.carry hbn);unfold FsV.cs at ew15;unfold FsV.val;clear ho hx9 ho9 hbn;obtain ⟨ko0,ko1,ko2,ko3,ko4,ko5⟩:=qab qzk.out;have hcon:=qaes xo f w15 qzl.out HW.out
  go_wp2_with fail
  try rw [ew15]
  try generalize Value.agg #[.slice xh.a1 xh.n1 xh.c1,.slice xh.a2 xh.n2 xh.c2,.slice xh.a3 xh.n3 xh.c3,.int .u32 xh.g,.slice xh.a4 xh.n4 xh.c4,.slice xh.a5 xh.n5 xh.c5]=vah
  try generalize Value.tuple #[vah,.int .i64 Dg.2]=vth
  refine hcon.mono ?_
  rintro e w16 ⟨v9,rfl,ho,hbb⟩;have qahi:=hide (qag3.out.carry hbb);have qahj:=hide (qzk.out.carry hbb);have qahk:=hide (qzl.out.carry hbb);have qahl:=hide (qag4.out.carry hbb);have qahm:=hide (qag5.out.carry hbb);have qahn:=hide (qag6.out.carry hbb);have qaho:=hide (qag7.out.carry hbb);have qahp:=hide (qag8.out.carry hbb);have qahq:=hide (qag9.out.carry hbb);have qahr:=hide (qaha.out.carry hbb);have qahs:=hide (qahb.out.carry hbb);have qaht:=hide (qahc.out.carry hbb);have qahu:=hide (qahd.out.carry hbb);have qahv:=hide (qahe.out.carry hbb);have qahw:=hide (qahf.out.carry hbb);have qahx:=hide (qahg.out.carry hbb);have qahy:=hide (qahh.out.carry hbb);have qadd:=bT qub hbb;clear hcon hbb ko0 ko1 ko2 ko3 ko4 ko5
  try clear ew15
  obtain ⟨Di,hDi⟩:∃z,z=qf3 f:=⟨_,rfl⟩;have HDi:=hide hDi;rw [←hDi] at ho ⊢;clear hDi;obtain ⟨xi,e9,hx9,ho9⟩:=ho.bx;subst e9;obtain ⟨w17,ew17⟩:∃wq,w16.alloc (.cells xi.cs 32)=wq:=⟨_,rfl⟩
  have hbn:Below w16.heap.size w16 w17:=by rw [←ew17];exact (Below.refl _ _).alloc (Nat.le_refl _) _
  have qzm:=hide (qahi.out.carry hbn);have qahz:=hide (qahj.out.carry hbn);have qah0:=hide (qahk.out.carry hbn);have qah1:=hide (qahl.out.carry hbn);have qah2:=hide (qahm.out.carry hbn);have qah3:=hide (qahn.out.carry hbn);have qah4:=hide (qaho.out.carry hbn);have qah5:=hide (qahp.out.carry hbn);have qah6:=hide (qahq.out.carry hbn);have qah7:=hide (qahr.out.carry hbn);have qah8:=hide (qahs.out.carry hbn);have qah9:=hide (qaht.out.carry hbn);have qaia:=hide (qahu.out.carry hbn);have qaib:=hide (qahv.out.carry hbn);have qaic:=hide (qahw.out.carry hbn);have qaid:=hide (qahx.out.carry hbn);have qaie:=hide (qahy.out.carry hbn);have qzn:=bT qadd hbn;have qaif:=hide (show FsAt w17 w16.heap.size xi by rw [←ew17];exact Bq.new _ _ _);have qaig:=hide (hx9.carry hbn);unfold FsV.cs at ew17;unfold FsV.val;clear ho hx9 ho9 hbn;obtain ⟨kx0,kx1,kx2,kx3,kx4,kx5⟩:=qab qzm.out;have hcon:=qvy x f w17 (HX.out.carry qzn.out) HW.out;rw [←HDi.out] at hcon
  go_wp2_with fail
  try rw [ew17]
  try generalize Value.agg #[.slice xi.a1 xi.n1 xi.c1,.slice xi.a2 xi.n2 xi.c2,.slice xi.a3 xi.n3 xi.c3,.int .u32 xi.g,.slice xi.a4 xi.n4 xi.c4,.slice xi.a5 xi.n5 xi.c5]=vai
  try generalize Value.tuple #[vai,.int .i64 Di.2]=vti
  refine hcon.mono ?_
  rintro e w18 ⟨v9,rfl,ho,hbb⟩;have qaih:=hide (qzm.out.carry hbb);have qaii:=hide (qahz.out.carry hbb);have qaij:=hide (qah0.out.carry hbb);have qaik:=hide (qah1.out.carry hbb);have qail:=hide (qah2.out.carry hbb);have qaim:=hide (qah3.out.carry hbb);have qain:=hide (qah4.out.carry hbb);have qaio:=hide (qah5.out.carry hbb);have qaip:=hide (qah6.out.carry hbb);have qaiq:=hide (qah7.out.carry hbb);have qair:=hide (qah8.out.carry hbb);have qais:=hide (qah9.out.carry hbb);have qait:=hide (qaia.out.carry hbb);have qaiu:=hide (qaib.out.carry hbb);have qaiv:=hide (qaic.out.carry hbb);have qaiw:=hide (qaid.out.carry hbb);have qaix:=hide (qaie.out.carry hbb);have qaiy:=hide (qaif.out.carry hbb);have qaiz:=hide (qaig.out.carry hbb);have qade:=bT qzn hbb;clear hcon hbb kx0 kx1 kx2 kx3 kx4 kx5
  try clear ew17
  obtain ⟨xj,e9,hx9,ho9⟩:=ho.bx;subst e9;obtain ⟨w19,ew19⟩:∃wq,w18.alloc (.cells xj.cs 32)=wq:=⟨_,rfl⟩
  have hbn:Below w18.heap.size w18 w19:=by rw [←ew19];exact (Below.refl _ _).alloc (Nat.le_refl _) _
  have qai0:=hide (qaih.out.carry hbn);have qzo:=hide (qaii.out.carry hbn);have qzp:=hide (qaij.out.carry hbn);have qzq:=hide (qaik.out.carry hbn);have qai1:=hide (qail.out.carry hbn);have qai2:=hide (qaim.out.carry hbn);have qai3:=hide (qain.out.carry hbn);have qai4:=hide (qaio.out.carry hbn);have qai5:=hide (qaip.out.carry hbn);have qai6:=hide (qaiq.out.carry hbn);have qai7:=hide (qair.out.carry hbn);have qai8:=hide (qais.out.carry hbn);have qai9:=hide (qait.out.carry hbn);have qaja:=hide (qaiu.out.carry hbn);have qajb:=hide (qaiv.out.carry hbn);have qajc:=hide (qaiw.out.carry hbn);have qajd:=hide (qaix.out.carry hbn);have qaje:=hide (qaiy.out.carry hbn);have qajf:=hide (qaiz.out.carry hbn);have qadf:=bT qade hbn;have qajg:=hide (show FsAt w19 w18.heap.size xj by rw [←ew19];exact Bq.new _ _ _);have qajh:=hide (hx9.carry hbn);unfold FsV.cs at ew19;unfold FsV.val;clear ho hx9 ho9 hbn;obtain ⟨ko0,ko1,ko2,ko3,ko4,ko5⟩:=qab qzo.out;have hcon:=qys xo f w19 qzp.out HW.out
  go_wp2_with fail
  try rw [ew19]
  try generalize Value.agg #[.slice xj.a1 xj.n1 xj.c1,.slice xj.a2 xj.n2 xj.c2,.slice xj.a3 xj.n3 xj.c3,.int .u32 xj.g,.slice xj.a4 xj.n4 xj.c4,.slice xj.a5 xj.n5 xj.c5]=vaj
  try generalize Value.tuple #[vaj,.int .i64 Di.2]=vtj
  refine hcon.mono ?_
  rintro e w20 ⟨v9,rfl,ho,hbb⟩;have qaji:=hide (qai0.out.carry hbb);have qajj:=hide (qzo.out.carry hbb);have qajk:=hide (qzp.out.carry hbb);have qajl:=hide (qzq.out.carry hbb);have qajm:=hide (qai1.out.carry hbb);have qajn:=hide (qai2.out.carry hbb);have qajo:=hide (qai3.out.carry hbb);have qajp:=hide (qai4.out.carry hbb);have qajq:=hide (qai5.out.carry hbb);have qajr:=hide (qai6.out.carry hbb);have qajs:=hide (qai7.out.carry hbb);have qajt:=hide (qai8.out.carry hbb);have qaju:=hide (qai9.out.carry hbb);have qajv:=hide (qaja.out.carry hbb);have qajw:=hide (qajb.out.carry hbb);have qajx:=hide (qajc.out.carry hbb);have qajy:=hide (qajd.out.carry hbb);have qajz:=hide (qaje.out.carry hbb);have qaj0:=hide (qajf.out.carry hbb);have qaj1:=hide (qajg.out.carry hbb);have qaj2:=hide (qajh.out.carry hbb);have qadg:=bT qadf hbb;clear hcon hbb ko0 ko1 ko2 ko3 ko4 ko5
  try clear ew19
  obtain ⟨Dk,hDk⟩:∃z,z=qcn f:=⟨_,rfl⟩;have HDk:=hide hDk;rw [←hDk] at ho ⊢;clear hDk;obtain ⟨xk,e9,hx9,ho9⟩:=ho.bx;subst e9;obtain ⟨w21,ew21⟩:∃wq,w20.alloc (.cells xk.cs 32)=wq:=⟨_,rfl⟩
  have hbn:Below w20.heap.size w20 w21:=by rw [←ew21];exact (Below.refl _ _).alloc (Nat.le_refl _) _
  have qzr:=hide (qaji.out.carry hbn);have qaj3:=hide (qajj.out.carry hbn);have qaj4:=hide (qajk.out.carry hbn);have qaj5:=hide (qajl.out.carry hbn);have qaj6:=hide (qajm.out.carry hbn);have qaj7:=hide (qajn.out.carry hbn);have qaj8:=hide (qajo.out.carry hbn);have qaj9:=hide (qajp.out.carry hbn);have qaka:=hide (qajq.out.carry hbn);have qakb:=hide (qajr.out.carry hbn);have qakc:=hide (qajs.out.carry hbn);have qakd:=hide (qajt.out.carry hbn);have qake:=hide (qaju.out.carry hbn);have qakf:=hide (qajv.out.carry hbn);have qakg:=hide (qajw.out.carry hbn);have qakh:=hide (qajx.out.carry hbn);have qaki:=hide (qajy.out.carry hbn);have qakj:=hide (qajz.out.carry hbn);have qakk:=hide (qaj0.out.carry hbn);have qakl:=hide (qaj1.out.carry hbn);have qakm:=hide (qaj2.out.carry hbn);have qe3:=bT qadg hbn;have qakn:=hide (show FsAt w21 w20.heap.size xk by rw [←ew21];exact Bq.new _ _ _);have qako:=hide (hx9.carry hbn);have qakp:=hide ((ho9.mono qzq.out.size).carry hbn);unfold FsV.cs at ew21;unfold FsV.val;clear ho hx9 ho9 hbn;obtain ⟨kx0,kx1,kx2,kx3,kx4,kx5⟩:=qab qzr.out;have hcon:=qrd x f w21 (HX.out.carry qe3.out) HW.out;rw [←HDk.out] at hcon
  go_wp2_with fail
  try rw [ew21]
  try generalize Value.agg #[.slice xk.a1 xk.n1 xk.c1,.slice xk.a2 xk.n2 xk.c2,.slice xk.a3 xk.n3 xk.c3,.int .u32 xk.g,.slice xk.a4 xk.n4 xk.c4,.slice xk.a5 xk.n5 xk.c5]=vak
  try generalize Value.tuple #[vak,.int .i64 Dk.2]=vtk
  refine hcon.mono ?_
  rintro e w22 ⟨v9,rfl,ho,hbb⟩;have qakq:=hide (qzr.out.carry hbb);have qakr:=hide (qaj3.out.carry hbb);have qaks:=hide (qaj4.out.carry hbb);have qakt:=hide (qaj5.out.carry hbb);have qaku:=hide (qaj6.out.carry hbb);have qakv:=hide (qaj7.out.carry hbb);have qakw:=hide (qaj8.out.carry hbb);have qakx:=hide (qaj9.out.carry hbb);have qaky:=hide (qaka.out.carry hbb);have qakz:=hide (qakb.out.carry hbb);have qak0:=hide (qakc.out.carry hbb);have qak1:=hide (qakd.out.carry hbb);have qak2:=hide (qake.out.carry hbb);have qak3:=hide (qakf.out.carry hbb);have qak4:=hide (qakg.out.carry hbb);have qak5:=hide (qakh.out.carry hbb);have qak6:=hide (qaki.out.carry hbb);have qak7:=hide (qakj.out.carry hbb);have qak8:=hide (qakk.out.carry hbb);have qak9:=hide (qakl.out.carry hbb);have qala:=hide (qakm.out.carry hbb);have qalb:=hide (qakn.out.carry hbb);have qalc:=hide (qako.out.carry hbb);have qald:=hide (qakp.out.carry hbb);have qq5:=bT qe3 hbb;clear hcon hbb kx0 kx1 kx2 kx3 kx4 kx5
  try clear ew21
  obtain ⟨xl,e9,hx9,ho9⟩:=ho.bx;subst e9;obtain ⟨w23,ew23⟩:∃wq,w22.alloc (.cells xl.cs 32)=wq:=⟨_,rfl⟩
  have hbn:Below w22.heap.size w22 w23:=by rw [←ew23];exact (Below.refl _ _).alloc (Nat.le_refl _) _
  have qale:=hide (qakq.out.carry hbn);have qzs:=hide (qakr.out.carry hbn);have qzt:=hide (qaks.out.carry hbn);have qzu:=hide (qakt.out.carry hbn);have qalf:=hide (qaku.out.carry hbn);have qalg:=hide (qakv.out.carry hbn);have qalh:=hide (qakw.out.carry hbn);have qali:=hide (qakx.out.carry hbn);have qalj:=hide (qaky.out.carry hbn);have qalk:=hide (qakz.out.carry hbn);have qall:=hide (qak0.out.carry hbn);have qalm:=hide (qak1.out.carry hbn);have qaln:=hide (qak2.out.carry hbn);have qalo:=hide (qak3.out.carry hbn);have qalp:=hide (qak4.out.carry hbn);have qalq:=hide (qak5.out.carry hbn);have qalr:=hide (qak6.out.carry hbn);have qals:=hide (qak7.out.carry hbn);have qalt:=hide (qak8.out.carry hbn);have qalu:=hide (qak9.out.carry hbn);have qalv:=hide (qala.out.carry hbn);have qalw:=hide (qalb.out.carry hbn);have qalx:=hide (qalc.out.carry hbn);have qaly:=hide (qald.out.carry hbn);have qadh:=bT qq5 hbn;have qalz:=hide (show FsAt w23 w22.heap.size xl by rw [←ew23];exact Bq.new _ _ _);have qal0:=hide (hx9.carry hbn);unfold FsV.cs at ew23;unfold FsV.val;clear ho hx9 ho9 hbn;obtain ⟨ko0,ko1,ko2,ko3,ko4,ko5⟩:=qab qzs.out;have hcon:=qabv xo f w23 qzt.out HW.out
  go_wp2_with fail
  try rw [ew23]
  try generalize Value.agg #[.slice xl.a1 xl.n1 xl.c1,.slice xl.a2 xl.n2 xl.c2,.slice xl.a3 xl.n3 xl.c3,.int .u32 xl.g,.slice xl.a4 xl.n4 xl.c4,.slice xl.a5 xl.n5 xl.c5]=val
  try generalize Value.tuple #[val,.int .i64 Dk.2]=vtl
  refine hcon.mono ?_
  rintro e w24 ⟨v9,rfl,ho,hbb⟩;have qal1:=hide (qale.out.carry hbb);have qal2:=hide (qzs.out.carry hbb);have qal3:=hide (qzt.out.carry hbb);have qal4:=hide (qzu.out.carry hbb);have qal5:=hide (qalf.out.carry hbb);have qal6:=hide (qalg.out.carry hbb);have qal7:=hide (qalh.out.carry hbb);have qal8:=hide (qali.out.carry hbb);have qal9:=hide (qalj.out.carry hbb);have qama:=hide (qalk.out.carry hbb);have qamb:=hide (qall.out.carry hbb);have qamc:=hide (qalm.out.carry hbb);have qamd:=hide (qaln.out.carry hbb);have qame:=hide (qalo.out.carry hbb);have qamf:=hide (qalp.out.carry hbb);have qamg:=hide (qalq.out.carry hbb);have qamh:=hide (qalr.out.carry hbb);have qami:=hide (qals.out.carry hbb);have qamj:=hide (qalt.out.carry hbb);have qamk:=hide (qalu.out.carry hbb);have qaml:=hide (qalv.out.carry hbb);have qamm:=hide (qalw.out.carry hbb);have qamn:=hide (qalx.out.carry hbb);have qamo:=hide (qaly.out.carry hbb);have qamp:=hide (qalz.out.carry hbb);have qamq:=hide (qal0.out.carry hbb);have qadi:=bT qadh hbb;clear hcon hbb ko0 ko1 ko2 ko3 ko4 ko5
  try clear ew23
  obtain ⟨Dm,hDm⟩:∃z,z=qez f:=⟨_,rfl⟩;have HDm:=hide hDm;rw [←hDm] at ho ⊢;clear hDm;obtain ⟨xm,e9,hx9,ho9⟩:=ho.bx;subst e9;obtain ⟨w25,ew25⟩:∃wq,w24.alloc (.cells xm.cs 32)=wq:=⟨_,rfl⟩
  have hbn:Below w24.heap.size w24 w25:=by rw [←ew25];exact (Below.refl _ _).alloc (Nat.le_refl _) _
  have qzv:=hide (qal1.out.carry hbn);have qamr:=hide (qal2.out.carry hbn);have qams:=hide (qal3.out.carry hbn);have qamt:=hide (qal4.out.carry hbn);have qamu:=hide (qal5.out.carry hbn);have qamv:=hide (qal6.out.carry hbn);have qamw:=hide (qal7.out.carry hbn);have qamx:=hide (qal8.out.carry hbn);have qamy:=hide (qal9.out.carry hbn);have qamz:=hide (qama.out.carry hbn);have qam0:=hide (qamb.out.carry hbn);have qam1:=hide (qamc.out.carry hbn);have qam2:=hide (qamd.out.carry hbn);have qam3:=hide (qame.out.carry hbn);have qam4:=hide (qamf.out.carry hbn);have qam5:=hide (qamg.out.carry hbn);have qam6:=hide (qamh.out.carry hbn);have qam7:=hide (qami.out.carry hbn);have qam8:=hide (qamj.out.carry hbn);have qam9:=hide (qamk.out.carry hbn);have qana:=hide (qaml.out.carry hbn);have qanb:=hide (qamm.out.carry hbn);have qanc:=hide (qamn.out.carry hbn);have qand:=hide (qamo.out.carry hbn);have qane:=hide (qamp.out.carry hbn);have qanf:=hide (qamq.out.carry hbn);have qzw:=bT qadi hbn;have qang:=hide (show FsAt w25 w24.heap.size xm by rw [←ew25];exact Bq.new _ _ _);have qanh:=hide (hx9.carry hbn);have qani:=hide ((ho9.mono qzu.out.size).carry hbn);unfold FsV.cs at ew25;unfold FsV.val;clear ho hx9 ho9 hbn;obtain ⟨kx0,kx1,kx2,kx3,kx4,kx5⟩:=qab qzv.out;have hcon:=qsp x f w25 (HX.out.carry qzw.out) HW.out;rw [←HDm.out] at hcon
  go_wp2_with fail
  try rw [ew25]
  try generalize Value.agg #[.slice xm.a1 xm.n1 xm.c1,.slice xm.a2 xm.n2 xm.c2,.slice xm.a3 xm.n3 xm.c3,.int .u32 xm.g,.slice xm.a4 xm.n4 xm.c4,.slice xm.a5 xm.n5 xm.c5]=vam
  try generalize Value.tuple #[vam,.int .i64 Dm.2]=vtm
  refine hcon.mono ?_
  rintro e w26 ⟨v9,rfl,ho,hbb⟩;have qanj:=hide (qzv.out.carry hbb);have qank:=hide (qamr.out.carry hbb);have qanl:=hide (qams.out.carry hbb);have qanm:=hide (qamt.out.carry hbb);have qann:=hide (qamu.out.carry hbb);have qano:=hide (qamv.out.carry hbb);have qanp:=hide (qamw.out.carry hbb);have qanq:=hide (qamx.out.carry hbb);have qanr:=hide (qamy.out.carry hbb);have qans:=hide (qamz.out.carry hbb);have qant:=hide (qam0.out.carry hbb);have qanu:=hide (qam1.out.carry hbb);have qanv:=hide (qam2.out.carry hbb);have qanw:=hide (qam3.out.carry hbb);have qanx:=hide (qam4.out.carry hbb);have qany:=hide (qam5.out.carry hbb);have qanz:=hide (qam6.out.carry hbb);have qan0:=hide (qam7.out.carry hbb);have qan4:=hide (qam8.out.carry hbb);have qan5:=hide (qam9.out.carry hbb);have qan6:=hide (qana.out.carry hbb);have qan7:=hide (qanb.out.carry hbb);have qan8:=hide (qanc.out.carry hbb);have qan9:=hide (qand.out.carry hbb);have qaoa:=hide (qane.out.carry hbb);have qaob:=hide (qanf.out.carry hbb);have qaoc:=hide (qang.out.carry hbb);have qaod:=hide (qanh.out.carry hbb);have qaoe:=hide (qani.out.carry hbb);have qadj:=bT qzw hbb;clear hcon hbb kx0 kx1 kx2 kx3 kx4 kx5
  try clear ew25
  obtain ⟨xy,e9,hx9,ho9⟩:=ho.bx;subst e9;obtain ⟨w27,ew27⟩:∃wq,w26.alloc (.cells xy.cs 32)=wq:=⟨_,rfl⟩
  have hbn:Below w26.heap.size w26 w27:=by rw [←ew27];exact (Below.refl _ _).alloc (Nat.le_refl _) _
  have qaof:=hide (qanj.out.carry hbn);have qaog:=hide (qank.out.carry hbn);have qaoh:=hide (qanl.out.carry hbn);have qaoi:=hide (qanm.out.carry hbn);have qaoj:=hide (qann.out.carry hbn);have qaok:=hide (qano.out.carry hbn);have qaol:=hide (qanp.out.carry hbn);have qaom:=hide (qanq.out.carry hbn);have qaon:=hide (qanr.out.carry hbn);have qaoo:=hide (qans.out.carry hbn);have qaop:=hide (qant.out.carry hbn);have qaoq:=hide (qanu.out.carry hbn);have qaor:=hide (qanv.out.carry hbn);have qaos:=hide (qanw.out.carry hbn);have qaot:=hide (qanx.out.carry hbn);have qaou:=hide (qany.out.carry hbn);have qaov:=hide (qanz.out.carry hbn);have qaow:=hide (qan0.out.carry hbn);have qaox:=hide (qan4.out.carry hbn);have qaoy:=hide (qan5.out.carry hbn);have qaoz:=hide (qan6.out.carry hbn);have qao0:=hide (qan7.out.carry hbn);have qao1:=hide (qan8.out.carry hbn);have qao2:=hide (qan9.out.carry hbn);have qao3:=hide (qaoa.out.carry hbn);have qao4:=hide (qaob.out.carry hbn);have qao5:=hide (qaoc.out.carry hbn);have qao6:=hide (qaod.out.carry hbn);have qao7:=hide (qaoe.out.carry hbn);have qadk:=bT qadj hbn;have qao8:=hide (show FsAt w27 w26.heap.size xy by rw [←ew27];exact Bq.new _ _ _);have qao9:=hide (hx9.carry hbn);unfold FsV.cs at ew27;unfold FsV.val;clear ho hx9 ho9 hbn;have hcon:=qy0 n w27
  go_wp2_with fail
  try rw [ew27]
  try generalize Value.agg #[.slice xy.a1 xy.n1 xy.c1,.slice xy.a2 xy.n2 xy.c2,.slice xy.a3 xy.n3 xy.c3,.int .u32 xy.g,.slice xy.a4 xy.n4 xy.c4,.slice xy.a5 xy.n5 xy.c5]=vay
  try generalize Value.tuple #[vay,.int .i64 Dm.2]=vty
  refine hcon.mono ?_
  rintro e w28 ⟨v9,rfl,ho,hbb⟩;have qapa:=hide (qaof.out.carry hbb);have qapb:=hide (qaog.out.carry hbb);have qapc:=hide (qaoh.out.carry hbb);have qapd:=hide (qaoi.out.carry hbb);have qape:=hide (qaoj.out.carry hbb);have qapf:=hide (qaok.out.carry hbb);have qapg:=hide (qaol.out.carry hbb);have qaph:=hide (qaom.out.carry hbb);have qapi:=hide (qaon.out.carry hbb);have qapj:=hide (qaoo.out.carry hbb);have qapk:=hide (qaop.out.carry hbb);have qapl:=hide (qaoq.out.carry hbb);have qapm:=hide (qaor.out.carry hbb);have qapn:=hide (qaos.out.carry hbb);have qapo:=hide (qaot.out.carry hbb);have qapp:=hide (qaou.out.carry hbb);have qapq:=hide (qaov.out.carry hbb);have qapr:=hide (qaow.out.carry hbb);have qaps:=hide (qaox.out.carry hbb);have qapt:=hide (qaoy.out.carry hbb);have qapu:=hide (qaoz.out.carry hbb);have qapv:=hide (qao0.out.carry hbb);have qapw:=hide (qao1.out.carry hbb);have qapx:=hide (qao2.out.carry hbb);have qapy:=hide (qao3.out.carry hbb);have qapz:=hide (qao4.out.carry hbb);have qap0:=hide (qao5.out.carry hbb);have qap4:=hide (qao6.out.carry hbb);have qap5:=hide (qao7.out.carry hbb);have qap6:=hide (qao8.out.carry hbb);have qap7:=hide (qao9.out.carry hbb);have qadl:=bT qadk hbb;clear hcon hbb
  try clear ew27
  obtain ⟨Dp,hDp⟩:∃z,z=qb4 n:=⟨_,rfl⟩;have HDp:=hide hDp;rw [←hDp] at ho ⊢;clear hDp;obtain ⟨xp,e9,hx9,ho9⟩:=ho.bx;subst e9;obtain ⟨w29,ew29⟩:∃wq,w28.alloc (.cells xp.cs 32)=wq:=⟨_,rfl⟩
  have hbn:Below w28.heap.size w28 w29:=by rw [←ew29];exact (Below.refl _ _).alloc (Nat.le_refl _) _
  have qap8:=hide (qapa.out.carry hbn);have qap9:=hide (qapb.out.carry hbn);have qaqa:=hide (qapc.out.carry hbn);have qaqb:=hide (qapd.out.carry hbn);have qaqc:=hide (qape.out.carry hbn);have qaqd:=hide (qapf.out.carry hbn);have qaqe:=hide (qapg.out.carry hbn);have qaqf:=hide (qaph.out.carry hbn);have qaqg:=hide (qapi.out.carry hbn);have qaqh:=hide (qapj.out.carry hbn);have qaqi:=hide (qapk.out.carry hbn);have qaqj:=hide (qapl.out.carry hbn);have qaqk:=hide (qapm.out.carry hbn);have qaql:=hide (qapn.out.carry hbn);have qaqm:=hide (qapo.out.carry hbn);have qaqn:=hide (qapp.out.carry hbn);have qaqo:=hide (qapq.out.carry hbn);have qaqp:=hide (qapr.out.carry hbn);have qaqq:=hide (qaps.out.carry hbn);have qaqr:=hide (qapt.out.carry hbn);have qaqs:=hide (qapu.out.carry hbn);have qaqt:=hide (qapv.out.carry hbn);have qaqu:=hide (qapw.out.carry hbn);have qaqv:=hide (qapx.out.carry hbn);have qaqw:=hide (qapy.out.carry hbn);have qaqx:=hide (qapz.out.carry hbn);have qaqy:=hide (qap0.out.carry hbn);have qaqz:=hide (qap4.out.carry hbn);have qaq0:=hide (qap5.out.carry hbn);have qaq1:=hide (qap6.out.carry hbn);have qaq2:=hide (qap7.out.carry hbn);have qadm:=bT qadl hbn;have qaq3:=hide (show FsAt w29 w28.heap.size xp by rw [←ew29];exact Bq.new _ _ _);have qaq4:=hide (hx9.carry hbn);unfold FsV.cs at ew29;unfold FsV.val;clear ho hx9 ho9 hbn;have hcon:=qre n w29;rw [←HDp.out] at hcon
  go_wp2_with fail
  try rw [ew29]
  try generalize Value.agg #[.slice xp.a1 xp.n1 xp.c1,.slice xp.a2 xp.n2 xp.c2,.slice xp.a3 xp.n3 xp.c3,.int .u32 xp.g,.slice xp.a4 xp.n4 xp.c4,.slice xp.a5 xp.n5 xp.c5]=vap
  try generalize Value.tuple #[vap,.int .i64 Dp.2]=vtp
  refine hcon.mono ?_
  rintro e w30 ⟨v9,rfl,ho,hbb⟩;have qaq5:=hide (qap8.out.carry hbb);have qaq6:=hide (qap9.out.carry hbb);have qaq7:=hide (qaqa.out.carry hbb);have qaq8:=hide (qaqb.out.carry hbb);have qaq9:=hide (qaqc.out.carry hbb);have qara:=hide (qaqd.out.carry hbb);have qarb:=hide (qaqe.out.carry hbb);have qarc:=hide (qaqf.out.carry hbb);have qard:=hide (qaqg.out.carry hbb);have qare:=hide (qaqh.out.carry hbb);have qarf:=hide (qaqi.out.carry hbb);have qarg:=hide (qaqj.out.carry hbb);have qarh:=hide (qaqk.out.carry hbb);have qari:=hide (qaql.out.carry hbb);have qarj:=hide (qaqm.out.carry hbb);have qark:=hide (qaqn.out.carry hbb);have qarl:=hide (qaqo.out.carry hbb);have qarm:=hide (qaqp.out.carry hbb);have qarn:=hide (qaqq.out.carry hbb);have qaro:=hide (qaqr.out.carry hbb);have qarp:=hide (qaqs.out.carry hbb);have qarq:=hide (qaqt.out.carry hbb);have qarr:=hide (qaqu.out.carry hbb);have qars:=hide (qaqv.out.carry hbb);have qart:=hide (qaqw.out.carry hbb);have qaru:=hide (qaqx.out.carry hbb);have qarv:=hide (qaqy.out.carry hbb);have qarw:=hide (qaqz.out.carry hbb);have qarx:=hide (qaq0.out.carry hbb);have qary:=hide (qaq1.out.carry hbb);have qarz:=hide (qaq2.out.carry hbb);have qar0:=hide (qaq3.out.carry hbb);have qar1:=hide (qaq4.out.carry hbb);have qadn:=bT qadm hbb;clear hcon hbb
  try clear ew29
  obtain ⟨xq,e9,hx9,ho9⟩:=ho.bx;subst e9;obtain ⟨w31,ew31⟩:∃wq,w30.alloc (.cells xq.cs 32)=wq:=⟨_,rfl⟩
  have hbn:Below w30.heap.size w30 w31:=by rw [←ew31];exact (Below.refl _ _).alloc (Nat.le_refl _) _
  have qzx:=hide (qaq5.out.carry hbn);have qzy:=hide (qaq6.out.carry hbn);have qar2:=hide (qaq7.out.carry hbn);have qar3:=hide (qaq8.out.carry hbn);have qzz:=hide (qaq9.out.carry hbn);have qar4:=hide (qara.out.carry hbn);have qasa:=hide (qarb.out.carry hbn);have qasb:=hide (qarc.out.carry hbn);have qasc:=hide (qard.out.carry hbn);have qasd:=hide (qare.out.carry hbn);have qase:=hide (qarf.out.carry hbn);have qasf:=hide (qarg.out.carry hbn);have qasg:=hide (qarh.out.carry hbn);have qash:=hide (qari.out.carry hbn);have qasi:=hide (qarj.out.carry hbn);have qasj:=hide (qark.out.carry hbn);have qask:=hide (qarl.out.carry hbn);have qasl:=hide (qarm.out.carry hbn);have qasm:=hide (qarn.out.carry hbn);have qasn:=hide (qaro.out.carry hbn);have qaso:=hide (qarp.out.carry hbn);have qz0:=hide (qarq.out.carry hbn);have qasp:=hide (qarr.out.carry hbn);have qasq:=hide (qars.out.carry hbn);have qasr:=hide (qart.out.carry hbn);have qass:=hide (qaru.out.carry hbn);have qz1:=hide (qarv.out.carry hbn);have qast:=hide (qarw.out.carry hbn);have qasu:=hide (qarx.out.carry hbn);have qasv:=hide (qary.out.carry hbn);have qasw:=hide (qarz.out.carry hbn);have qasx:=hide (qar0.out.carry hbn);have qasy:=hide (qar1.out.carry hbn);have qm6:=bT qadn hbn;have qasz:=hide (show FsAt w31 w30.heap.size xq by rw [←ew31];exact Bq.new _ _ _);have qas0:=hide (hx9.carry hbn);unfold FsV.cs at ew31;unfold FsV.val;clear ho hx9 ho9 hbn;go_wp2
  try rw [ew31]
  clear ew31
  try generalize Value.agg #[.slice xq.a1 xq.n1 xq.c1,.slice xq.a2 xq.n2 xq.c2,.slice xq.a3 xq.n3 xq.c3,.int .u32 xq.g,.slice xq.a4 xq.n4 xq.c4,.slice xq.a5 xq.n5 xq.c5]=vaq
  try generalize Value.tuple #[vaq,.int .i64 Dp.2]=vtq
  have hK:Keeps (BelP w31):=fun w1 w2 h hb=>h.carry hb
  have hS0:BelP w31 w31:=BelP.refl w31
  refine qaj hK (by kernel_rfl) hS0 ?_
  intro hS
  refine qah [0,1] (fuel:=80) (a':=?qa1) (by kernel_rfl) (by kernel_rfl) (by kernel_rfl) ?qp1 hS ?qn1
  case qp1=>
   iterate 2 (apply Yl.cons rfl (by kernel_rfl);focus (rintro wx x1;obtain ⟨k0,k1,k2,k3,k4,k5⟩:=qab (qzz.out.carry x1);obtain ⟨j0,j1,j2,j3,j4,j5⟩:=qab (qasb.out.carry x1);clear x1;go_simp;all_goals (with_reducible rfl));try simp only [Act.put,sA,sB,sC])
   exact Yl.nil
  refine qar hK (i:=2) (v:=.bool true) rfl (by kernel_rfl) (by kernel_rfl) (by go_simp) hS ((qdp xa xb Da.1 Da.1 _ (qar4.out.carry hS) (qasc.out.carry hS)).mono fun e wy ⟨h1,h2⟩=>⟨by rw [h1,qdo],h2⟩) ?_
  clear hS;intro w142 hS
  try simp only [Act.put,sA,sB,sC]
  refine qah [3,4,5,6,7,8,9,10,11] (fuel:=70) (a':=?qa2) (by kernel_rfl) (by kernel_rfl) (by kernel_rfl) ?qp2 hS ?qn2
  case qp2=>
   iterate 9 (apply Yl.cons rfl (by kernel_rfl);focus (rintro wx x1;obtain ⟨k0,k1,k2,k3,k4,k5⟩:=qab (qasd.out.carry x1);obtain ⟨j0,j1,j2,j3,j4,j5⟩:=qab (qasf.out.carry x1);clear x1;go_simp;all_goals (with_reducible rfl));try simp only [Act.put,sA,sB,sC])
   exact Yl.nil
  refine qar hK (i:=12) (v:=.bool true) rfl (by kernel_rfl) (by kernel_rfl) (by go_simp) hS ((qdp xc xd Dc.1 Dc.1 _ (qase.out.carry hS) (qasg.out.carry hS)).mono fun e wy ⟨h1,h2⟩=>⟨by rw [h1,qdo],h2⟩) ?_
  clear hS;intro w152 hS
  try simp only [Act.put,sA,sB,sC]
  refine qah [13,14,15,16,17,18,19,20,21,22] (fuel:=59) (a':=?qa3) (by kernel_rfl) (by kernel_rfl) (by kernel_rfl) ?qp3 hS ?qn3
  case qp3=>
   iterate 10 (apply Yl.cons rfl (by kernel_rfl);focus (rintro wx x1;obtain ⟨k0,k1,k2,k3,k4,k5⟩:=qab (qash.out.carry x1);obtain ⟨j0,j1,j2,j3,j4,j5⟩:=qab (qasj.out.carry x1);clear x1;go_simp;all_goals (with_reducible rfl));try simp only [Act.put,sA,sB,sC])
   exact Yl.nil
  refine qar hK (i:=23) (v:=.bool true) rfl (by kernel_rfl) (by kernel_rfl) (by go_simp) hS ((qdp xg xh Dg.1 Dg.1 _ (qasi.out.carry hS) (qask.out.carry hS)).mono fun e wy ⟨h1,h2⟩=>⟨by rw [h1,qdo],h2⟩) ?_
  clear hS;intro w163 hS
  try simp only [Act.put,sA,sB,sC]
  refine qah [24,25,26,27,28,29,30,31,32,33] (fuel:=48) (a':=?qa4) (by kernel_rfl) (by kernel_rfl) (by kernel_rfl) ?qp4 hS ?qn4
  case qp4=>
   iterate 10 (apply Yl.cons rfl (by kernel_rfl);focus (rintro wx x1;obtain ⟨k0,k1,k2,k3,k4,k5⟩:=qab (qasl.out.carry x1);obtain ⟨j0,j1,j2,j3,j4,j5⟩:=qab (qasn.out.carry x1);clear x1;go_simp;all_goals (with_reducible rfl));try simp only [Act.put,sA,sB,sC])
   exact Yl.nil
  refine qar hK (i:=34) (v:=.bool true) rfl (by kernel_rfl) (by kernel_rfl) (by go_simp) hS ((qdp xi xj Di.1 Di.1 _ (qasm.out.carry hS) (qaso.out.carry hS)).mono fun e wy ⟨h1,h2⟩=>⟨by rw [h1,qdo],h2⟩) ?_
  clear hS;intro w174 hS
  try simp only [Act.put,sA,sB,sC]
  refine qah [35,36,37,38,39,40,41,42,43,44] (fuel:=37) (a':=?qa5) (by kernel_rfl) (by kernel_rfl) (by kernel_rfl) ?qp5 hS ?qn5
  case qp5=>
   iterate 10 (apply Yl.cons rfl (by kernel_rfl);focus (rintro wx x1;obtain ⟨k0,k1,k2,k3,k4,k5⟩:=qab (qz0.out.carry x1);obtain ⟨j0,j1,j2,j3,j4,j5⟩:=qab (qasr.out.carry x1);clear x1;go_simp;all_goals (with_reducible rfl));try simp only [Act.put,sA,sB,sC])
   exact Yl.nil
  refine qar hK (i:=45) (v:=.bool true) rfl (by kernel_rfl) (by kernel_rfl) (by go_simp) hS ((qdp xk xl Dk.1 Dk.1 _ (qasp.out.carry hS) (qass.out.carry hS)).mono fun e wy ⟨h1,h2⟩=>⟨by rw [h1,qdo],h2⟩) ?_
  clear hS;intro w185 hS
  try simp only [Act.put,sA,sB,sC]
  refine qah [46,47,48,49,50,51,52,53,54,55] (fuel:=26) (a':=?qa6) (by kernel_rfl) (by kernel_rfl) (by kernel_rfl) ?qp6 hS ?qn6
  case qp6=>
   iterate 10 (apply Yl.cons rfl (by kernel_rfl);focus (rintro wx x1;obtain ⟨k0,k1,k2,k3,k4,k5⟩:=qab (qz1.out.carry x1);obtain ⟨j0,j1,j2,j3,j4,j5⟩:=qab (qasv.out.carry x1);clear x1;go_simp;all_goals (with_reducible rfl));try simp only [Act.put,sA,sB,sC])
   exact Yl.nil
  refine qar hK (i:=56) (v:=.bool true) rfl (by kernel_rfl) (by kernel_rfl) (by go_simp) hS ((qdp xm xy Dm.1 Dm.1 _ (qast.out.carry hS) (qasw.out.carry hS)).mono fun e wy ⟨h1,h2⟩=>⟨by rw [h1,qdo],h2⟩) ?_
  clear hS;intro w196 hS
  try simp only [Act.put,sA,sB,sC]
  refine qah [57,58,59,60,61,62,63,64,65,66] (fuel:=15) (a':=?qa7) (by kernel_rfl) (by kernel_rfl) (by kernel_rfl) ?qp7 hS ?qn7
  case qp7=>
   iterate 10 (apply Yl.cons rfl (by kernel_rfl);focus (rintro wx x1;obtain ⟨k0,k1,k2,k3,k4,k5⟩:=qab (qasx.out.carry x1);obtain ⟨j0,j1,j2,j3,j4,j5⟩:=qab (qasz.out.carry x1);clear x1;go_simp;all_goals (with_reducible rfl));try simp only [Act.put,sA,sB,sC])
   exact Yl.nil
  refine qar hK (i:=67) (v:=.bool true) rfl (by kernel_rfl) (by kernel_rfl) (by go_simp) hS ((qdp xp xq Dp.1 Dp.1 _ (qasy.out.carry hS) (qas0.out.carry hS)).mono fun e wy ⟨h1,h2⟩=>⟨by rw [h1,qdo],h2⟩) ?_
  clear hS;intro w207 hS
  try simp only [Act.put,sA,sB,sC]
  refine qah [68,69,70,71,72,73,74,75,76,78] (fuel:=4) (a':=?qa8) (by kernel_rfl) (by kernel_rfl) (by kernel_rfl) ?qp8 hS ?qn8
  case qp8=>
   iterate 10 (apply Yl.cons rfl (by kernel_rfl);focus (rintro wx x1;obtain ⟨k0,k1,k2,k3,k4,k5⟩:=qab (qzy.out.carry x1);obtain ⟨j0,j1,j2,j3,j4,j5⟩:=qab (qzx.out.carry x1);clear x1;go_simp;all_goals (with_reducible rfl));try simp only [Act.put,sA,sB,sC])
   exact Yl.nil
  refine qar hK (i:=77) (v:=.int .i64 (fsE f)) rfl (by kernel_rfl) (by kernel_rfl) (by go_simp) hS (qt7 xo f _ (qar2.out.carry hS) HW.out) ?_
  clear hS;intro w217 hS
  try simp only [Act.put,sA,sB,sC]
  refine qar hK (i:=79) (v:=.int .i64 (fsE f)) rfl (by kernel_rfl) (by kernel_rfl) (by go_simp) hS (qdj x f _ (HX.out.carry (qm6.out.trans (Below.mono hS qm6.out.size))) HW.out) ?_
  clear hS;intro w219 hS
  try simp only [Act.put,sA,sB,sC]
  refine qah [80,81] (fuel:=0) (a':=?qa9) (by kernel_rfl) (by kernel_rfl) (by kernel_rfl) ?qp9 hS ?qn9
  case qp9=>
   iterate 2 (apply Yl.cons rfl (by kernel_rfl);focus (rintro wx x1;obtain ⟨k0,k1,k2,k3,k4,k5⟩:=qab (qzy.out.carry x1);obtain ⟨j0,j1,j2,j3,j4,j5⟩:=qab (qzx.out.carry x1);clear x1;go_simp;all_goals (with_reducible rfl));try simp only [Act.put,sA,sB,sC])
   exact Yl.nil
  refine wpAnyH_done (by kernel_rfl) ?_ _
  refine NoPanic.normal ?_
  have HBE:=hide (show BelP w3 w219 from qar3.out.carry hS);have H1a:=hide (qasa.out.carry hS).shf;have H1k:=hide (qasq.out.carry hS).shf;have H1m:=hide (qasu.out.carry hS).shf;have HF1k:=hide (qz0.out.carry hS);have HF1m:=hide (qz1.out.carry hS);obtain ⟨k0,k1,k2,k3,k4,k5⟩:=qab (qzz.out.carry hS);have hcon:=qor xa w3.heap.size w219 H1a.out HBE.out.size;clear hK hS hS0
  go_wp2_with fail
  refine hcon.mono ?_
  rintro e wt1 ⟨rfl,hbt,htz⟩;have HT1:=hide (show BelP w3 wt1 from HBE.out.trans hbt);have H2k:=hide (H1k.out.tz htz);have H2m:=hide (H1m.out.tz htz);have HF2k:=hide (htz.2.2 _ _ HF1k.out);have HF2m:=hide (htz.2.2 _ _ HF1m.out);clear hcon hbt htz k0 k1 k2 k3 k4 k5;obtain ⟨k0,k1,k2,k3,k4,k5⟩:=qab HF2k.out;have hcon:=qor xk w3.heap.size wt1 H2k.out HT1.out.size
  go_wp2_with fail
  refine hcon.mono ?_
  rintro e wt2 ⟨rfl,hbt,htz⟩;have HT2:=hide (show BelP w3 wt2 from HT1.out.trans hbt);have H3m:=hide (H2m.out.tz htz);have HF3m:=hide (htz.2.2 _ _ HF2m.out);clear hcon hbt htz k0 k1 k2 k3 k4 k5;obtain ⟨k0,k1,k2,k3,k4,k5⟩:=qab HF3m.out;have hcon:=qor xm w3.heap.size wt2 H3m.out HT2.out.size
  go_wp2_with fail
  refine hcon.mono ?_
  rintro e wt3 ⟨rfl,hbt,htz⟩;have HT3:=hide (show BelP w3 wt3 from HT2.out.trans hbt);clear hcon hbt htz k0 k1 k2 k3 k4 k5;obtain ⟨k0,k1,k2,k3,k4,k5⟩:=qab (qze.out.carry HT3.out);obtain ⟨j0,j1,j2,j3,j4,j5⟩:=qab (qq6.out.carry HT3.out);have hcon:=qdp xo x f f wt3 (qzf.out.carry HT3.out) (HX.out.carry (qao.out.trans (Below.mono HT3.out qao.out.size)));rw [qdo] at hcon
  go_wp2_with fail
  refine hcon.mono ?_
  rintro e wz ⟨rfl,hbz⟩;have HE:=hide (qao.out.trans (Below.mono (HT3.out.carry hbz) qao.out.size));clear hcon hbz k0 k1 k2 k3 k4 k5 j0 j1 j2 j3 j4 j5;go_wp2;go_ret;exact ⟨rfl,HE.out⟩
theorem qst (x:FsV) (f:Fsd) (s t:List UInt8) (n:Int) (w:World) (h:RdX w x f) (hw:WfX f) (hs:(∀g∈f.2.2.1,g.2.length≤140737488355328)∧∀g∈f.2.2.2,g.2.length≤140737488355328) (hsd:(∀p∈f.1.2.1,p.2.length≤140737488355328)∧∀p∈f.1.2.2,p.2.2.length≤140737488355328):
  Calls Tryz.prog 3 #[x.val,.string (bs s),.string (bs t),.int .i64 n] w fun e w'=>e=.returned (.bool true)∧Below w.heap.size w w':=(ft_a x f s t n w).2 (hide (ft_b x f s t n w)) h hw hs hsd
end Go.Proofs.YthilibleedbchaaGreat
